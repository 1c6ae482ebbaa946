import Derived.Test.YtmomffminkflnaaGreatDoorRDdSettle
import Derived.Test.YtmomffminkflnaaGreatDoorRAcFormM
set_option maxRecDepth 100000
set_option maxHeartbeats 32000000
namespace Go.Proofs
open Go.RowKit Go.Shelf
theorem Dd.linkAt_no (kid:Int):∀(l:List (Int×Int)) (b:Nat) (o:Int),(o<0∨(l.length:Int)<=o)->Dd.linkAt kid l b o= -1
 | [],_,_,_=>rfl
 |x::r,b,o,h=>by
  have hl:((x::r).length:Int)=r.length+1:=by simp
  rw[Dd.linkAt]
  by_cases e:x.1=kid
  ·rw[if_pos e,if_neg (by omega)]
   exact Dd.linkAt_no kid r (b+1) (o-1) (by omega)
  rw[if_neg e];exact Dd.linkAt_no kid r (b+1) o (by omega)
theorem Dd.wrap_pred (o:Int)(h0: -9223372036854775808<=o)(h1:o<=9223372036854775807):(-9223372036854775808<=IntKind.i64.wrap (o-1)/\IntKind.i64.wrap (o-1)<=9223372036854775807)/\(IntKind.i64.wrap (o-1)=o-1∨(o-1<0/\1000<=IntKind.i64.wrap (o-1))):=by
 by_cases h:o= -9223372036854775808
 ·subst h;refine⟨by decide,.inr ⟨by decide,by decide⟩⟩
 rw[Go.IntWalk.i64_in _ (by omega)];omega
theorem Tryz.linkAt_any (x0 x1 x2 x3 x4 x5 x6 x7 x8 x10 x11:Value)(la:Option Addr)(m lc:Nat)(ls:List (Int×Int))(kid out:Int)(w:World)(hL:Ac.Lks w w.heap.size la ls)(hm:ls.length=m)(h40:m<=40)(ho0: -9223372036854775808<=out)(ho1:out<=9223372036854775807):
  Calls Tryz.prog 37 #[.agg #[x0,x1,x2,x3,x4,x5,x6,x7,x8,.slice la m lc,x10,x11],.int .i64 kid,.int .i64 out] w λe w'=>e=.returned (.int .i64 (Dd.linkAt kid ls 0 out))/\Below w.heap.size w w':=by
 obtain⟨R,hR⟩:=pE (Dd.linkAt kid ls 0 out);rw[hR];obtain⟨w1,hw1⟩:=pE (w.alloc (.cells #[x0,x1,x2,x3,x4,x5,x6,x7,x8,.slice la m lc,x10,x11] 32));have B1:=pB hw1
 have N1:w1.heap[w.heap.size]? =some (.cells #[x0,x1,x2,x3,x4,x5,x6,x7,x8,.slice la m lc,x10,x11] 32 (0,0)):=by rw[<-hw1];exact heap_alloc_new w _
 have c9:w1.cell? ⟨w.heap.size,9,none⟩=some (.slice la m lc):=by simp[World.cell?,N1]
 have H1:Hid _:=hw1;have HB:Hid (Below w.heap.size w w1):=B1;have HL:Hid (Ac.Lks w w.heap.size la ls/\ls.length=m):=⟨hL,hm⟩;have HR:Hid (Dd.linkAt kid (ls.drop 0) 0 out=R):=hR;have HO:Hid (-9223372036854775808<=out/\out<=9223372036854775807):=⟨ho0,ho1⟩;clear hL hm hR hw1 B1 N1 ho0 ho1
 go_enter Tryz.func37,Tryz.ntmps37
 go_upto_region 1 with fail
 rw[H1.out];go_wp2
 go_loopg [2,7,12] m (λgk s2 _ s12 wr=>∃(j:Nat) (o:Int),gk+j=m/\s12=.int .i64 j/\s2=.int .i64 o/\Hid (Below w.heap.size w wr/\Dd.linkAt kid (ls.drop j) j o=R/\ -9223372036854775808<=o/\o<=9223372036854775807))
 case atStart=>exact⟨0,out,by omega,rfl,rfl,HB.out,HR.out,HO.out⟩
 case round=>
  obtain⟨j,o,hj,rfl,rfl,HJ⟩:=hrel;clear c9
  by_cases hlt:j<m
  rotate_left
  ·have hd:decide ((j:Int)<m)=false:=decide_eq_false (by omega)
   have HQ:Hid (R= -1):=by
    have h1:=HJ.out.2.1;rw[List.drop_eq_nil_of_le (by rw[HL.out.2];omega)]at h1;exact h1.symm
   go_wp2;go_ret;exact⟨by rw[HQ.out];rfl,HJ.out.1⟩
  have hd:decide ((j:Int)<m)=true:=decide_eq_true (by omega);have hjl:j<ls.length:=by rw[HL.out.2];exact hlt
  obtain⟨q,off,rfl,hq,d0,d1⟩:=HL.out.1 j hjl;obtain⟨x,hx⟩:=pE (ls[j]);obtain⟨a,b⟩:=x;rw[hx]at d0 d1;have j0:(0:Int)<=j:=by omega
  have j1:(j:Int)<m:=by omega
  have e0:wr.cell? ⟨q,off+j*2,none⟩=some (.int .i64 a):=by rw[HJ.out.1.cell (p:=⟨q,off+j*2,none⟩) hq];exact d0
  have e1:wr.cell? ⟨q,off+j*2+1,none⟩=some (.int .i64 b):=by rw[HJ.out.1.cell (p:=⟨q,off+j*2+1,none⟩) hq];exact d1
  obtain⟨w2,hw2⟩:=pE (wr.alloc (.cells #[.int .i64 a,.int .i64 b] 80));have B2:=pB hw2
  have HB2:Hid (Below w.heap.size w w2):=HJ.out.1.trans (B2.mono HJ.out.1.size);have N2:w2.heap[wr.heap.size]? =some (.cells #[.int .i64 a,.int .i64 b] 80 (0,0)):=by rw[<-hw2];exact heap_alloc_new wr _
  have k0:w2.cell? ⟨wr.heap.size,0,none⟩=some (.int .i64 a):=by simp[World.cell?,N2]
  have HS:Hid (R=if a=kid then(if o=0 then(j:Int)else Dd.linkAt kid (ls.drop (j+1)) (j+1) (o-1))else Dd.linkAt kid (ls.drop (j+1)) (j+1) o):=by
   have h1:=HJ.out.2.1;rw[List.drop_eq_getElem_cons hjl,hx,Dd.linkAt]at h1;exact h1.symm
  have HO2:Hid (-9223372036854775808<=o/\o<=9223372036854775807/\(ls.drop (j+1)).length<=40):=⟨HJ.out.2.2.1,HJ.out.2.2.2,by rw[List.length_drop,HL.out.2];omega⟩;have HW2:Hid _:=hw2;clear d0 d1 hx hjl hq hw2 B2 N2 HJ
  by_cases ha:a=kid
  rotate_left
  ·have he:(a !=kid)=true:=by simpa using ha
   have HQ:Hid (Dd.linkAt kid (ls.drop (j+1)) (j+1) o=R):=by
    have h1:=HS.out;rw[if_neg ha]at h1;exact h1.symm
   clear ha
   go_upto_region 4 with fail
   rw[HW2.out];go_wp2;go_roundg (gk-1)
   case measure=>omega
   case rel=>exact⟨j+1,o,by omega,by go_num,rfl,HB2.out,HQ.out,HO2.out.1,HO2.out.2.1⟩
  have he:(a !=kid)=false:=by simp[ha]
  by_cases h0:o=0
  ·have he2:(o==0)=true:=by simp[h0]
   have HQ:Hid (R=j):=by
    have h1:=HS.out;rw[if_pos ha,if_pos h0]at h1;exact h1
   clear ha h0
   go_upto_region 4 with fail
   rw[HW2.out];go_wp2;go_ret;exact⟨by rw[HQ.out];rfl,HB2.out⟩
  have he2:(o==0)=false:=by simpa using h0
  obtain⟨o',ho'⟩:=pE (IntKind.i64.wrap (o-1))
  have HQ:Hid (Dd.linkAt kid (ls.drop (j+1)) (j+1) o'=R/\ -9223372036854775808<=o'/\o'<=9223372036854775807):=by
   have h1:=HS.out;rw[if_pos ha,if_neg h0]at h1;obtain⟨h2,h3⟩:=Dd.wrap_pred o HO2.out.1 HO2.out.2.1;rw[ho']at h2 h3;refine⟨?_,h2⟩
   rcases h3 with h3|h3
   ·rw[h1,h3]
   rw[h1,Dd.linkAt_no kid _ _ o' (.inr (by have:=HO2.out.2.2;omega)),Dd.linkAt_no kid _ _ (o-1) (.inl h3.1)]
  clear ha h0
  go_upto_region 4 with fail
  rw[HW2.out];go_wp2
  try rw[ho']
  go_roundg (gk-1)
  case measure=>omega
  case rel=>exact⟨j+1,o',by omega,by go_num,by first|rfl|rw[ho'],HB2.out,HQ.out⟩
theorem Tryz.deadRuns_any (x0 x1 x2 x3 x4 x5 x6 x7 x9 x10 x11:Value)(ka:Option Addr)(n kc:Nat)(l:List Int)(kid:Int)(w:World)(hl:l.length=104)(h64:n<=64):
  Calls Tryz.prog 32 #[.agg #[x0,x1,x2,x3,x4,x5,x6,x7,.slice ka n kc,x9,x10,x11],.agg (Dd.row l),.int .i64 kid] w λe w'=>e=.returned (.bool (Dd.runsB n l kid))/\Below w.heap.size w w':=by
 obtain⟨R,hR⟩:=pE (Dd.runsB n l kid);rw[hR];obtain⟨w1,hw1⟩:=pE ((w.alloc (.cells #[x0,x1,x2,x3,x4,x5,x6,x7,.slice ka n kc,x9,x10,x11] 32)).alloc (.cells (Dd.row l) 41));have h0:Dd.Bx (w.alloc (.cells #[x0,x1,x2,x3,x4,x5,x6,x7,.slice ka n kc,x9,x10,x11] 32)) w.heap.size #[x0,x1,x2,x3,x4,x5,x6,x7,.slice ka n kc,x9,x10,x11]:=heap_alloc_new w _;have h1:=Dd.At.new (w.alloc (.cells #[x0,x1,x2,x3,x4,x5,x6,x7,.slice ka n kc,x9,x10,x11] 32)) hl;rw[show(w.alloc (.cells #[x0,x1,x2,x3,x4,x5,x6,x7,.slice ka n kc,x9,x10,x11] 32)).heap.size=w.heap.size+1 by simp,hw1]at h1;have h2:Dd.Bx w1 w.heap.size #[x0,x1,x2,x3,x4,x5,x6,x7,.slice ka n kc,x9,x10,x11]:=by rw[<-hw1];exact h0.keep (Below.heap_alloc _ _ _ h0.lt)
 have B1:Below w.heap.size w w1:=by rw[<-hw1];exact((Below.refl _ w).alloc (Nat.le_refl _) _).alloc (by simp) _
 have c8:w1.cell? ⟨w.heap.size,8,none⟩=some (.slice ka n kc):=by unfold Dd.Bx at h2;simp[World.cell?,h2]
 have H1:Hid _:=hw1;have HB:Hid (Below w.heap.size w w1):=B1;have HR:Hid ((decide (0<=kid)&&decide (kid<n)&&decide (l.getD (40+kid.toNat) 0=1))=R):=hR
 by_cases hk0:0<=kid
 rotate_left
 ·have d0:decide (0<=kid)=false:=decide_eq_false hk0
  have HQ:Hid (R=false):=by
   have h:=HR.out;rw[d0]at h;exact h.symm
  clear hR hw1 h0 h1 h2 B1 hk0
  go_enter Tryz.func32,Tryz.ntmps32
  go_upto_region 1 with fail
  rw[H1.out];go_wp2;go_ret;exact⟨by rw[HQ.out];rfl,HB.out⟩
 have d0:decide (0<=kid)=true:=decide_eq_true hk0
 by_cases hkn:kid<n
 rotate_left
 ·have d1:decide (kid<(n:Int))=false:=decide_eq_false hkn
  have HQ:Hid (R=false):=by
   have h:=HR.out;rw[d0,d1]at h;exact h.symm
  clear hR hw1 h0 h1 h2 B1 hkn
  go_enter Tryz.func32,Tryz.ntmps32
  go_upto_region 1 with fail
  rw[H1.out];go_wp2;go_ret;exact⟨by rw[HQ.out];rfl,HB.out⟩
 have d1:decide (kid<(n:Int))=true:=decide_eq_true hkn;obtain⟨k,rfl⟩:∃k:Nat,kid=k:=⟨kid.toNat,by omega⟩;obtain⟨v,hv⟩:=pE (l.getD (40+k) 0);have s1:=h1.cell (40+k) (by omega);rw[hv]at s1;have k64:(k:Int)<64:=by omega
 have hkn':k<n:=by omega
 by_cases h1v:v=1
 ·have e1:(v==1)=true:=by simp[h1v]
  have HQ:Hid (R=true):=by
   have h:=HR.out;rw[d0,d1,show((k:Int)).toNat=k by omega,hv,decide_eq_true h1v]at h;exact h.symm
  clear h1v hR hw1 h0 h1 h2 B1 hv hkn
  go_enter Tryz.func32,Tryz.ntmps32
  go_upto_region 1 with fail
  rw[H1.out];go_wp2;go_ret;exact⟨by rw[HQ.out];rfl,HB.out⟩
 have e1:(v==1)=false:=by simpa using h1v
 have HQ:Hid (R=false):=by
  have h:=HR.out;rw[d0,d1,show((k:Int)).toNat=k by omega,hv,decide_eq_false h1v]at h;exact h.symm
 clear h1v hR hw1 h0 h1 h2 B1 hv hkn
 go_enter Tryz.func32,Tryz.ntmps32
 go_upto_region 1 with fail
 rw[H1.out];go_wp2;go_ret;exact⟨by rw[HQ.out];rfl,HB.out⟩
def Dd.checkI (wb:Bool)(n m:Nat)(l:List Int):Int:=if wb=true then(if Dd.okB n m l=true then 0 else 1)else 4
theorem Tryz.deadCheck_any (x0 x1 x2 x3 x4 x5 x6 x7 x10 x11:Value)(ka la:Option Addr)(n kc m lc:Nat)(l:List Int)(wb:Bool)(w:World)(hl:l.length=104)(h40:wb=true->m<=40/\n<=64)(CW0:∀W,Below w.heap.size w W->Calls Tryz.prog 26 #[.agg #[x0,x1,x2,x3,x4,x5,x6,x7,.slice ka n kc,.slice la m lc,x10,x11]] W λe w'=>e=.returned (.bool wb)/\Below W.heap.size W w'):
  Calls Tryz.prog 19 #[.agg #[x0,x1,x2,x3,x4,x5,x6,x7,.slice ka n kc,.slice la m lc,x10,x11],.agg (Dd.row l)] w λe w'=>e=.returned (.int .i64 (Dd.checkI wb n m l))/\Below w.heap.size w w':=by
 obtain⟨R,hR⟩:=pE (Dd.checkI wb n m l);rw[hR];obtain⟨w1,hw1⟩:=pE ((w.alloc (.cells #[x0,x1,x2,x3,x4,x5,x6,x7,.slice ka n kc,.slice la m lc,x10,x11] 32)).alloc (.cells (Dd.row l) 41));have h0:Dd.Bx (w.alloc (.cells #[x0,x1,x2,x3,x4,x5,x6,x7,.slice ka n kc,.slice la m lc,x10,x11] 32)) w.heap.size #[x0,x1,x2,x3,x4,x5,x6,x7,.slice ka n kc,.slice la m lc,x10,x11]:=heap_alloc_new w _;have h1:=Dd.At.new (w.alloc (.cells #[x0,x1,x2,x3,x4,x5,x6,x7,.slice ka n kc,.slice la m lc,x10,x11] 32)) hl;rw[show(w.alloc (.cells #[x0,x1,x2,x3,x4,x5,x6,x7,.slice ka n kc,.slice la m lc,x10,x11] 32)).heap.size=w.heap.size+1 by simp,hw1]at h1;have h2:Dd.Bx w1 w.heap.size #[x0,x1,x2,x3,x4,x5,x6,x7,.slice ka n kc,.slice la m lc,x10,x11]:=by rw[<-hw1];exact h0.keep (Below.heap_alloc _ _ _ h0.lt)
 have B1:Below w.heap.size w w1:=by rw[<-hw1];exact((Below.refl _ w).alloc (Nat.le_refl _) _).alloc (by simp) _
 have HB1:Hid (Below w.heap.size w w1):=B1;have CW:Hid _:=CW0 w1 B1;have HF:Hid (∀W,Below w1.heap.size w1 W->Dd.Bx W w.heap.size #[x0,x1,x2,x3,x4,x5,x6,x7,.slice ka n kc,.slice la m lc,x10,x11]/\Dd.At W (w.heap.size+1) l/\Below w.heap.size w W):=λW hb=>⟨h2.below hb h2.lt,h1.below hb h1.lt,B1.trans (hb.mono B1.size)⟩;have H1:Hid _:=hw1;have NA:=h2;unfold Dd.Bx at NA;have ha:=Tryz.underlying32;have ia:(Tryz.prog.info? 32).map (·.size)=some (#[x0,x1,x2,x3,x4,x5,x6,x7,.slice ka n kc,.slice la m lc,x10,x11]:Array Value).size:=Dd.info_act;clear hw1 h0 h1 h2 B1 CW0
 cases wb with
 |false=>
  have HR:Hid (R=4):=hR.symm;clear hR hl h40
  go_enter Tryz.func19,Tryz.ntmps19
  go_upto_region 1 with fail
  rw[H1.out]
  go_wp2_with (refine wpList_load_row rfl 32 _ rfl _ rfl 32 _ (0,0) _ NA ha rfl ia ?_)
  refine Calls.mono CW.out ?_;rintro e W2 ⟨rfl,hb2⟩;have HB:Hid (Below w.heap.size w W2):=HB1.out.trans (hb2.mono HB1.out.size);clear hb2 CW HF NA;go_wp2;go_ret;exact⟨by rw[HR.out];rfl,HB.out⟩
 |true=>
 obtain⟨m40,n64⟩:=h40 rfl;obtain⟨r1,hr1⟩:=pE ((Gm.heldB ((l.take 40).take m) 2&&Gm.heldB ((l.take 40).drop m) 0));obtain⟨r2,hr2⟩:=pE ((Gm.heldB ((l.drop 40).take n) 3&&Gm.heldB ((l.drop 40).drop n) 0))
 have HR:Hid (R=if(r1&&r2)=true then 0 else 1):=by
  show _=_;rw[<-hR,<-hr1,<-hr2];rfl
 have e40:(l.take 40).length=40:=by simp;omega
 have e64:(l.drop 40).length=64:=by simp;omega
 have HA:Hid (∀W,Dd.At W (w.heap.size+1) l->Calls Tryz.prog 34 #[.slice (some ⟨w.heap.size+1,0,none⟩) 40 40,.int .i64 m,.int .i64 2] W λe w'=>e=.returned (.bool r1)/\w'=W):=λW hA=>by
  have h:=Tryz.filled_any (w.heap.size+1) 0 (l.take 40) m 2 W (λj hj=>by
   rw[e40]at hj;rw[Nat.zero_add,hA.cell j (by omega),List.getElem_take]
   congr 2
   simp[List.getD_eq_getElem?_getD,show j<l.length by omega]) (by omega) (by omega)
  rw[e40,hr1]at h;exact h
 have HK:Hid (∀W,Dd.At W (w.heap.size+1) l->Calls Tryz.prog 34 #[.slice (some ⟨w.heap.size+1,40,none⟩) 64 64,.int .i64 n,.int .i64 3] W λe w'=>e=.returned (.bool r2)/\w'=W):=λW hA=>by
  have h:=Tryz.filled_any (w.heap.size+1) 40 (l.drop 40) n 3 W (λj hj=>by
   rw[e64]at hj;rw[hA.cell (40+j) (by omega),List.getElem_drop]
   congr 2
   simp[List.getD_eq_getElem?_getD,show 40+j<l.length by omega]) (by omega) (by omega)
  rw[e64,hr2]at h;exact h
 have q0:(0:Int)<=m:=by omega
 have q1:(0:Int)<=n:=by omega
 clear hR hr1 hr2 e40 e64 hl h40
 go_enter Tryz.func19,Tryz.ntmps19
 go_upto_region 1 with fail
 rw[H1.out]
 go_wp2_with (refine wpList_load_row rfl 32 _ rfl _ rfl 32 _ (0,0) _ NA ha rfl ia ?_)
 refine Calls.mono CW.out ?_;rintro e W2 ⟨rfl,hb2⟩;obtain⟨h2,h1,HB⟩:=HF.out W2 hb2;have HB:Hid (Below w.heap.size w W2):=HB;have hbx:W2.heap[w.heap.size]? =some (.cells #[x0,x1,x2,x3,x4,x5,x6,x7,.slice ka n kc,.slice la m lc,x10,x11] 32 (0,0)):=h2;have c8:W2.cell? ⟨w.heap.size,8,none⟩=some (.slice ka n kc):=by simp[World.cell?,hbx]
 have c9:W2.cell? ⟨w.heap.size,9,none⟩=some (.slice la m lc):=by simp[World.cell?,hbx]
 have CA:∀nq,Calls Tryz.prog 34 #[.slice (some ⟨w.heap.size+1,0,none⟩) 40 40,.int .i64 m,.int .i64 2] (W2.drewN nq) λe w'=>e=.returned (.bool r1)/\w'=W2.drewN nq:=λnq=>HA.out _ (h1.keep rfl);have CK:∀nq,Calls Tryz.prog 34 #[.slice (some ⟨w.heap.size+1,40,none⟩) 64 64,.int .i64 n,.int .i64 3] (W2.drewN nq) λe w'=>e=.returned (.bool r2)/\w'=W2.drewN nq:=λnq=>HK.out _ (h1.keep rfl);have hst:W2.heap[w.heap.size+1]? =some (.cells (Dd.row l) 41 (0,0)):=h1.h;clear hb2 CW HF NA h2 hbx HA HK h1;have HCA:Hid _:=CA;have HCK:Hid _:=CK;clear CA CK;have HW2:Hid (∀nq,Below w.heap.size w (W2.drewN nq)):=λnq=>HB.out.trans ⟨rfl,rfl,rfl,Nat.le_refl _,λ_ _=>rfl⟩
 cases r1 with
 |false=>
  have HQ:Hid (R=1):=by rw[HR.out];rfl
  go_wp2_with fail
  go_quiet (first|(go_at_call 34;with_reducible refine Calls.quiet_of_same (HCA.out _)))
  go_wp2;go_ret;exact⟨by rw[HQ.out];rfl,HW2.out _⟩
 |true=>
  cases r2 with
  |false=>
   have HQ:Hid (R=1):=by rw[HR.out];rfl
   go_wp2_with fail
   go_quiet (first|(go_at_call 34;with_reducible refine Calls.quiet_of_same (HCA.out _))|(go_at_call 34;with_reducible refine Calls.quiet_of_same (HCK.out _)))
   go_wp2;go_ret;exact⟨by rw[HQ.out];rfl,HW2.out _⟩
  |true=>
   have HQ:Hid (R=0):=by rw[HR.out];rfl
   go_wp2_with fail
   go_quiet (first|(go_at_call 34;with_reducible refine Calls.quiet_of_same (HCA.out _))|(go_at_call 34;with_reducible refine Calls.quiet_of_same (HCK.out _)))
   go_wp2;go_ret;exact⟨by rw[HQ.out];rfl,HW2.out _⟩
def Dd.runL (wb:Bool)(n m:Nat)(l:List Int):List Nat:=if Dd.checkI wb n m l≠0 then []else Dd.running n l
def Dd.lastI (ls:List (Int×Int)):Int:=match ls.findIdx? (λx=>decide (x.2= -1))with
 |some i=>(i:Int)
 |none=> -1
def Dd.overB (wb:Bool)(n:Nat)(ls:List (Int×Int))(l:List Int):Bool:=if Dd.checkI wb n ls.length l≠0 then false else decide (l.getD (Dd.lastI ls).toNat 0=1)
theorem Dd.run_step (_n:Nat)(l:List Int)(k:Nat):Dd.running (k+1) l=Dd.running k l++if l.getD (40+k) 0=1 then [k]else []:=by
 unfold Dd.running;rw[List.range_succ,List.filter_append]
 congr 1
 rw[List.filter_cons,List.filter_nil]
 by_cases h:l.getD (40+k) 0=1
 ·rw[if_pos (decide_eq_true h),if_pos h]
 rw[if_neg (by simpa using h),if_neg h]
structure Dd.F2 (w:World)(xs:Array Value)(l:List Int)(W:World):Prop where
 bx:Dd.Bx W w.heap.size xs
 st:Dd.At W (w.heap.size+1) l
 bel:Below w.heap.size w W
theorem Dd.F2.new (w:World)(xs:Array Value){l:List Int}(h:l.length=104):Dd.F2 w xs l ((w.alloc (.cells xs 32)).alloc (.cells (Dd.row l) 41)):=by
 have h0:Dd.Bx (w.alloc (.cells xs 32)) w.heap.size xs:=heap_alloc_new w _;have h1:=Dd.At.new (w.alloc (.cells xs 32)) h;rw[show(w.alloc (.cells xs 32)).heap.size=w.heap.size+1 by simp]at h1;exact⟨h0.keep (Below.heap_alloc _ _ _ h0.lt),h1,((Below.refl _ w).alloc (Nat.le_refl _) _).alloc (by simp) _⟩
theorem Dd.F2.below {w W W':World}{xs:Array Value}{l:List Int}(h:Dd.F2 w xs l W)(hb:Below W.heap.size W W'):Dd.F2 w xs l W':=
 ⟨h.bx.below hb h.bx.lt,h.st.below hb h.st.lt,h.bel.trans (hb.mono h.bel.size)⟩
theorem Tryz.deadRunning_any (x0 x1 x2 x3 x4 x5 x6 x7 x10 x11:Value)(ka la:Option Addr)(n kc m lc:Nat)(l:List Int)(wb:Bool)(w:World)(hl:l.length=104)(h40:wb=true->m<=40/\n<=64)
  (CW0:∀W,Below w.heap.size w W->Calls Tryz.prog 26 #[.agg #[x0,x1,x2,x3,x4,x5,x6,x7,.slice ka n kc,.slice la m lc,x10,x11]] W λe w'=>e=.returned (.bool wb)/\Below W.heap.size W w'):
  Calls Tryz.prog 14 #[.agg #[x0,x1,x2,x3,x4,x5,x6,x7,.slice ka n kc,.slice la m lc,x10,x11],.agg (Dd.row l)] w λe w'=>Nt.Gives (Dd.runL wb n m l) w e w':=by
 obtain⟨i0,hi,hz0,hz1,hz2⟩:=info_parts Tryz.infoIntR;obtain⟨w1,hw1⟩:=pE ((w.alloc (.cells #[x0,x1,x2,x3,x4,x5,x6,x7,.slice ka n kc,.slice la m lc,x10,x11] 32)).alloc (.cells (Dd.row l) 41));have F1:=Dd.F2.new w #[x0,x1,x2,x3,x4,x5,x6,x7,.slice ka n kc,.slice la m lc,x10,x11] hl;rw[hw1]at F1;have H1:Hid _:=hw1;have CC:Hid _:=Tryz.deadCheck_any x0 x1 x2 x3 x4 x5 x6 x7 x10 x11 ka la n kc m lc l wb w1 hl h40 (λW hb=>CW0 W (F1.bel.trans (hb.mono F1.bel.size)));obtain⟨c,hc⟩:=pE (Dd.checkI wb n m l);obtain⟨R,hR⟩:=pE (Dd.runL wb n m l);rw[hc]at CC;rw[hR]
 have HR:Hid (R=if c≠0 then []else Dd.running n l):=by
  show _=_;rw[<-hR,Dd.runL,hc]
 have HC:Hid (Dd.checkI wb n m l=c):=hc;have HF:Hid (∀W,Below w1.heap.size w1 W->Dd.F2 w #[x0,x1,x2,x3,x4,x5,x6,x7,.slice ka n kc,.slice la m lc,x10,x11] l W):=λW hb=>F1.below hb;have H4:Hid (wb=true->m<=40/\n<=64):=h40;have NA:=F1.bx;unfold Dd.Bx at NA;have NS:=F1.st.h;have ha:=Tryz.underlying32;have hu:=Tryz.underlying41;have ia:(Tryz.prog.info? 32).map (·.size)=some (#[x0,x1,x2,x3,x4,x5,x6,x7,.slice ka n kc,.slice la m lc,x10,x11]:Array Value).size:=Dd.info_act;have il:=Dd.info_row hl;clear hw1 F1 hl h40 CW0 hc hR
 by_cases hc0:c=0
 rotate_left
 ·have e0:(c !=0)=true:=by simpa using hc0
  have HQ:Hid (R= []):=by
   have h:=HR.out;rw[if_pos hc0]at h;exact h
  clear hc0
  go_enter Tryz.func14,Tryz.ntmps14
  go_upto_region 1 with fail
  rw[H1.out]
  go_wp2_with (first
   |refine wpList_load_row rfl 32 _ rfl _ rfl 32 _ (0,0) _ NA ha rfl ia ?_
   |refine wpList_load_row rfl 41 _ rfl _ rfl 41 (Dd.row l) (0,0) _ NS hu rfl il ?_)
  refine Calls.mono CC.out ?_;rintro e W2 ⟨rfl,hb2⟩;have HX:Hid (Below w.heap.size w W2):=(HF.out W2 hb2).bel;clear hb2 CC NA NS HF;go_wp2;go_ret;rw[HQ.out];exact⟨_,rfl,World.ownsRow_nil _ _ _ _,HX.out⟩
 have e0:(c !=0)=false:=by simp[hc0]
 have hwb:wb=true:=by
  cases wb with
  |true=>rfl
  |false=>have h:=HC.out;rw[hc0]at h;simp[Dd.checkI]at h
 have n64:n<=64:=(H4.out hwb).2
 have HQ:Hid (R=Dd.running n l):=by
  have h:=HR.out;rw[if_neg (by omega)]at h;exact h
 clear hc0 hwb HR
 go_enter Tryz.func14,Tryz.ntmps14
 go_upto_region 1 with fail
 rw[H1.out]
 go_wp2_with (first
  |refine wpList_load_row rfl 32 _ rfl _ rfl 32 _ (0,0) _ NA ha rfl ia ?_
  |refine wpList_load_row rfl 41 _ rfl _ rfl 41 (Dd.row l) (0,0) _ NS hu rfl il ?_)
 refine Calls.mono CC.out ?_;rintro e W2 ⟨rfl,hb2⟩;have HF2:Hid (Dd.F2 w #[x0,x1,x2,x3,x4,x5,x6,x7,.slice ka n kc,.slice la m lc,x10,x11] l W2):=HF.out W2 hb2
 have c8:W2.cell? ⟨w.heap.size,8,none⟩=some (.slice ka n kc):=by
  have h:=HF2.out.bx;unfold Dd.Bx at h;simp[World.cell?,h]
 clear hb2 CC NA NS HF;go_wp2
 go_loopg [5,6,14] n (λgk s5 _ s14 wr=>∃(k r:Nat) (L:List Nat),gk+k=n/\s14=.int .i64 k/\r<=k/\Hid (L=Dd.running k l/\L.length=r/\Below W2.heap.size W2 wr)/\wr.ownsRow W2.heap.size 3 1 s5 r (Rk.nums L))
 case atStart=>exact⟨0,0, [],by omega,rfl,Nat.le_refl _,⟨rfl,rfl,Below.refl _ W2⟩,World.ownsRow_nil _ _ _ _⟩
 case round=>
  obtain⟨k,r,L,hk,rfl,hr,HB,hown⟩:=hrel;obtain⟨av,cv,rfl⟩:=Rk.own_shape hown;clear c8
  by_cases hlt:k<n
  rotate_left
  ·have hd:decide ((k:Int)<n)=false:=decide_eq_false (by omega)
   have HE:Hid (L=R/\L.length=r):=by
    obtain rfl:k=n:=by omega
    exact⟨HB.out.1.trans HQ.out.symm,HB.out.2.1⟩
   go_wp2;go_ret;rw[<-HE.out.1];refine⟨_,rfl, ?_,HF2.out.bel.trans (HB.out.2.2.mono HF2.out.bel.size)⟩;have h:=Nt.own_lower hown HF2.out.bel.size;rw[<-HE.out.2]at h;rw[<-HE.out.2];exact h
  have hd:decide ((k:Int)<n)=true:=decide_eq_true (by omega);obtain⟨v,hv⟩:=pE (l.getD (40+k) 0);have s1:=(HF2.out.below HB.out.2.2).st.cell (40+k) (by omega);rw[hv]at s1;have p0:(0:Int)<=k:=by omega
  have p1:(k:Int)<64:=by omega
  have HS:Hid (Dd.running (k+1) l=L++if v=1 then [k]else []):=by
   show _=_;rw[Dd.run_step n l k,<-HB.out.1,hv]
  clear hv
  by_cases h1:v=1
  ·have e1:(v==1)=true:=by simp[h1]
   have HN:Hid (Dd.running (k+1) l=L++ [k]):=by
    have h:=HS.out;rw[if_pos h1]at h;exact h
   clear h1 HS;have hs1:=HB.out.2.2.size
   go_wp2_with (at_builtin;refine wpList_append_own _ rfl _ _ 51 rfl W2.heap.size 3 i0 (.int .i64 0) 1 8 Tryz.underlying51 hi hz0 hz1 hz2 rfl (by decide) _ _ _ rfl (hown.alloc _) ⟨wr.heap.size,0,none⟩ 1 1 [.int .i64 k] rfl rfl (Rk.one_cell wr k 3) (Rk.one_one k) ?c3 ?c4 ?c5 ?_)
   case c3=>unfold maxLen;omega
   case c4=>omega
   case c5=>simp;omega
   intro v' W3 own2 g2 _;obtain⟨a2,c2,rfl⟩:=Rk.own_shape own2;go_wp2;go_roundg (gk-1)
   case measure=>omega
   case rel=>
    refine⟨k+1,r+1,L++ [k],by omega,by go_num,by omega,⟨HN.out.symm,by simp[HB.out.2.1],Rk.below_grown (HB.out.2.2.alloc hs1 _) (by simp;omega) (hown.alloc _) g2⟩, ?_⟩;rw[Rk.nums_snoc];exact own2
  have e1:(v==1)=false:=by simpa using h1
  have HN:Hid (Dd.running (k+1) l=L):=by
   have h:=HS.out;rw[if_neg h1,List.append_nil]at h;exact h
  clear h1 HS;go_wp2;go_roundg (gk-1)
  case measure=>omega
  case rel=>exact⟨k+1,r,L,by omega,by go_num,by omega,⟨HN.out.symm,HB.out.2.1,HB.out.2.2⟩,hown⟩
theorem Tryz.over1_any (x y:Int)(w:World):Calls Tryz.prog 36 #[.agg #[.int .i64 x,.int .i64 y]] w λe w'=>e=.returned (.bool (decide (y= -1)))/\Below w.heap.size w w':=by
 have B0:Hid (Below w.heap.size w (w.alloc (.cells #[.int .i64 x,.int .i64 y] 80))):=(Below.refl _ w).alloc (Nat.le_refl _) _
 by_cases h:y= -1
 ·subst h
  go_enter Tryz.func36,Tryz.ntmps36
  go_wp2;go_ret;exact⟨rfl,B0.out⟩
 have e:(y== -1)=false:=by simpa using h
 have HQ:Hid (decide (y= -1)=false):=decide_eq_false h;clear h
 go_enter Tryz.func36,Tryz.ntmps36
 go_wp2;go_ret;rw[HQ.out];exact⟨rfl,B0.out⟩
theorem Dd.last_none {ls:List (Int×Int)}(h:∀j (h:j<ls.length),ls[j].2≠ -1):Dd.lastI ls= -1:=by
 unfold Dd.lastI;rw[List.findIdx?_eq_none_iff.2];intro x hx;obtain⟨j,hj,rfl⟩:=List.mem_iff_getElem.1 hx;exact decide_eq_false (h j hj)
theorem Dd.last_some {ls:List (Int×Int)}{k:Nat}(hk:k<ls.length)(h1:ls[k].2= -1)(h:∀j (_:j<k) (h:j<ls.length),ls[j].2≠ -1):Dd.lastI ls=k:=by
 unfold Dd.lastI;rw[(List.findIdx?_eq_some_iff_getElem (i:=k)).2 ⟨hk,decide_eq_true h1,λj hj=>by simpa using h j hj (by omega)⟩]
theorem Tryz.linkIndex_any (la:Option Addr)(m lc:Nat)(ls:List (Int×Int))(w:World)(hL:Ac.Lks w w.heap.size la ls)(hm:ls.length=m)(h40:m<=1000):
  Calls Tryz.prog 35 #[.slice la m lc,.func (.func 36) #[] #[]] w λe w'=>e=.returned (.int .i64 (Dd.lastI ls))/\Below w.heap.size w w':=by
 obtain⟨R,hR⟩:=pE (Dd.lastI ls);rw[hR];have HR:Hid (Dd.lastI ls=R):=hR;have HL:Hid (Ac.Lks w w.heap.size la ls/\ls.length=m):=⟨hL,hm⟩;clear hL hm hR
 go_enter Tryz.func35,Tryz.ntmps35
 go_wp2
 go_loopg [5,8] m (λgk _ s8 wr=>∃k:Nat,gk+k=m/\s8=.int .i64 k/\Hid (Below w.heap.size w wr/\∀j (_:j<k) (h:j<ls.length),ls[j].2≠ -1))
 case atStart=>exact⟨0,by omega,rfl,Below.refl _ w,λj hj=>by omega⟩
 case round=>
  obtain⟨k,hk,rfl,HB⟩:=hrel
  by_cases hlt:k<m
  rotate_left
  ·have hd:decide ((k:Int)<m)=false:=decide_eq_false (by omega)
   have HE:Hid (R= -1):=by
    show _=_;rw[<-HR.out];exact Dd.last_none λj hj=>HB.out.2 j (by rw[HL.out.2]at hj;omega) hj
   go_wp2;go_ret;exact⟨by rw[HE.out];rfl,HB.out.1⟩
  have hd:decide ((k:Int)<m)=true:=decide_eq_true (by omega);have hkl:k<ls.length:=by rw[HL.out.2];exact hlt
  obtain⟨q,off,rfl,hq,d0,d1⟩:=HL.out.1 k hkl;obtain⟨x,hx⟩:=pE (ls[k]);obtain⟨a,b⟩:=x;rw[hx]at d0 d1;have p0:(0:Int)<=k:=by omega
  have p1:(k:Int)<m:=by omega
  have e0:wr.cell? ⟨q,off+k*2,none⟩=some (.int .i64 a):=by rw[HB.out.1.cell (p:=⟨q,off+k*2,none⟩) hq];exact d0
  have e1:wr.cell? ⟨q,off+k*2+1,none⟩=some (.int .i64 b):=by rw[HB.out.1.cell (p:=⟨q,off+k*2+1,none⟩) hq];exact d1
  have HX:Hid (ls[k]=(a,b)):=hx;have HKL:Hid (k<ls.length):=hkl;have hcall:=Tryz.over1_any a b wr;clear hq d0 d1
  by_cases hb:b= -1
  ·have hq:decide (b= -1)=true:=decide_eq_true hb
   rw[hq]at hcall
   have HE:Hid (R=k):=by
    show _=_;rw[<-HR.out];exact Dd.last_some HKL.out (by rw[HX.out];exact hb) HB.out.2
   clear hq hb
   go_wp2_with (refine hcall.mono ?_;rintro e w1 ⟨rfl,hb1⟩)
   go_ret;exact⟨by rw[HE.out];rfl,HB.out.1.trans (hb1.mono HB.out.1.size)⟩
  have hq:decide (b= -1)=false:=decide_eq_false hb;rw[hq]at hcall
  have HE:Hid (∀j (_:j<k+1) (h:j<ls.length),ls[j].2≠ -1):=λj hj hjl=>by
   by_cases e:j=k
   ·subst e;rw[HX.out];exact hb
   exact HB.out.2 j (by omega) hjl
  clear hq hb
  go_wp2_with (refine hcall.mono ?_;rintro e w1 ⟨rfl,hb1⟩)
  go_roundg (gk-1)
  case measure=>omega
  case rel=>exact⟨k+1,by omega,by go_num,HB.out.1.trans (hb1.mono HB.out.1.size),HE.out⟩
theorem Tryz.deadOver_any (x0 x1 x2 x3 x4 x5 x6 x7 x10 x11:Value)(ka la:Option Addr)(n kc m lc:Nat)(ls:List (Int×Int))(l:List Int)(wb:Bool)(w:World)(hL:Ac.Lks w w.heap.size la ls)(hm:ls.length=m)(hl:l.length=104)(h40:wb=true->m<=40/\n<=64)(hlast:wb=true->∃i:Nat,Dd.lastI ls=i/\i<40)
  (CW0:∀W,Below w.heap.size w W->Calls Tryz.prog 26 #[.agg #[x0,x1,x2,x3,x4,x5,x6,x7,.slice ka n kc,.slice la m lc,x10,x11]] W λe w'=>e=.returned (.bool wb)/\Below W.heap.size W w'):
  Calls Tryz.prog 21 #[.agg #[x0,x1,x2,x3,x4,x5,x6,x7,.slice ka n kc,.slice la m lc,x10,x11],.agg (Dd.row l)] w λe w'=>e=.returned (.bool (Dd.overB wb n ls l))/\Below w.heap.size w w':=by
 obtain⟨w1,hw1⟩:=pE ((w.alloc (.cells #[x0,x1,x2,x3,x4,x5,x6,x7,.slice ka n kc,.slice la m lc,x10,x11] 32)).alloc (.cells (Dd.row l) 41));have F1:=Dd.F2.new w #[x0,x1,x2,x3,x4,x5,x6,x7,.slice ka n kc,.slice la m lc,x10,x11] hl;rw[hw1]at F1;have H1:Hid _:=hw1;have CC:Hid _:=Tryz.deadCheck_any x0 x1 x2 x3 x4 x5 x6 x7 x10 x11 ka la n kc m lc l wb w1 hl h40 (λW hb=>CW0 W (F1.bel.trans (hb.mono F1.bel.size)));obtain⟨c,hc⟩:=pE (Dd.checkI wb n m l);obtain⟨R,hR⟩:=pE (Dd.overB wb n ls l);rw[hc]at CC;rw[hR]
 have HR:Hid (R=if c≠0 then false else decide (l.getD (Dd.lastI ls).toNat 0=1)):=by
  show _=_;rw[<-hR,Dd.overB,hm,hc]
 have HC:Hid (Dd.checkI wb n m l=c):=hc;have HF:Hid (∀W,Below w1.heap.size w1 W->Dd.F2 w #[x0,x1,x2,x3,x4,x5,x6,x7,.slice ka n kc,.slice la m lc,x10,x11] l W):=λW hb=>F1.below hb;have H4:Hid ((wb=true->m<=40/\n<=64)/\(wb=true->∃i:Nat,Dd.lastI ls=i/\i<40)/\Ac.Lks w w.heap.size la ls/\ls.length=m):=⟨h40,hlast,hL,hm⟩;have NA:=F1.bx;unfold Dd.Bx at NA;have NS:=F1.st.h;have ha:=Tryz.underlying32;have hu:=Tryz.underlying41;have ia:(Tryz.prog.info? 32).map (·.size)=some (#[x0,x1,x2,x3,x4,x5,x6,x7,.slice ka n kc,.slice la m lc,x10,x11]:Array Value).size:=Dd.info_act;have il:=Dd.info_row hl;clear hw1 F1 hl h40 CW0 hc hR hL hm hlast
 by_cases hc0:c=0
 rotate_left
 ·have e0:(c !=0)=true:=by simpa using hc0
  have HQ:Hid (R=false):=by
   have h:=HR.out;rw[if_pos hc0]at h;exact h
  clear hc0
  go_enter Tryz.func21,Tryz.ntmps21
  go_upto_region 1 with fail
  rw[H1.out]
  go_wp2_with (first
   |refine wpList_load_row rfl 32 _ rfl _ rfl 32 _ (0,0) _ NA ha rfl ia ?_
   |refine wpList_load_row rfl 41 _ rfl _ rfl 41 (Dd.row l) (0,0) _ NS hu rfl il ?_)
  refine Calls.mono CC.out ?_;rintro e W2 ⟨rfl,hb2⟩;have HX:Hid (Below w.heap.size w W2):=(HF.out W2 hb2).bel;clear hb2 CC NA NS HF;go_wp2;go_ret;exact⟨by rw[HQ.out];rfl,HX.out⟩
 have e0:(c !=0)=false:=by simp[hc0]
 have hwb:wb=true:=by
  cases wb with
  |true=>rfl
  |false=>have h:=HC.out;rw[hc0]at h;simp[Dd.checkI]at h
 obtain⟨i,hil,hi40⟩:=H4.out.2.1 hwb
 have CI:Hid (∀W,Below w.heap.size w W->Calls Tryz.prog 35 #[.slice la m lc,.func (.func 36) #[] #[]] W λe w'=>e=.returned (.int .i64 i)/\Below W.heap.size W w'):=λW hb=>by
  have h:=Tryz.linkIndex_any la m lc ls W ((H4.out.2.2.1.keep hb.block).wider hb.size) H4.out.2.2.2 (by have:=(H4.out.1 hwb).1;omega);rw[hil]at h;exact h
 obtain⟨v,hv⟩:=pE (l.getD i 0)
 have HQ:Hid (R=decide (v=1)):=by
  have h:=HR.out;rw[if_neg (by omega),hil,show((i:Int)).toNat=i by omega,hv]at h;exact h
 have HV:Hid (l.getD i 0=v/\i<40):=⟨hv,hi40⟩;have p0:(0:Int)<=i:=by omega
 have p1:(i:Int)<40:=by omega
 clear hc0 hwb HR hil hi40 hv
 go_enter Tryz.func21,Tryz.ntmps21
 go_upto_region 1 with fail
 rw[H1.out]
 go_wp2_with (first
  |refine wpList_load_row rfl 32 _ rfl _ rfl 32 _ (0,0) _ NA ha rfl ia ?_
  |refine wpList_load_row rfl 41 _ rfl _ rfl 41 (Dd.row l) (0,0) _ NS hu rfl il ?_)
 refine Calls.mono CC.out ?_;rintro e W2 ⟨rfl,hb2⟩;have HF2:Hid (Dd.F2 w #[x0,x1,x2,x3,x4,x5,x6,x7,.slice ka n kc,.slice la m lc,x10,x11] l W2):=HF.out W2 hb2
 have c9:W2.cell? ⟨w.heap.size,9,none⟩=some (.slice la m lc):=by
  have h:=HF2.out.bx;unfold Dd.Bx at h;simp[World.cell?,h]
 clear hb2 CC NA NS HF
 go_wp2_with fail
 refine Calls.mono (CI.out _ HF2.out.bel) ?_;rintro e W3 ⟨rfl,hb3⟩;have HF3:Hid (Dd.F2 w #[x0,x1,x2,x3,x4,x5,x6,x7,.slice ka n kc,.slice la m lc,x10,x11] l W3):=HF2.out.below hb3;have s1:=HF3.out.st.cell i (by have:=HV.out.2;omega);rw[HV.out.1]at s1;clear hb3 c9
 by_cases h1:v=1
 ·have e1:(v==1)=true:=by simp[h1]
  have HE:Hid (R=true):=by rw[HQ.out];exact decide_eq_true h1
  clear h1 HQ;go_wp2;go_ret;exact⟨by rw[HE.out];rfl,HF3.out.bel⟩
 have e1:(v==1)=false:=by simpa using h1
 have HE:Hid (R=false):=by rw[HQ.out];exact decide_eq_false h1
 clear h1 HQ;go_wp2;go_ret;exact⟨by rw[HE.out];rfl,HF3.out.bel⟩
theorem Tryz.r16conds_any (cs:List Tm)(a:Option Addr)(cap:Nat)(other:Int)(e:Nat)(w:World)(hT:Ac.Tms w w.heap.size e a cs)(hsz:∀x∈cs,x.size<=2147483647)(hn:cs.length<=2147483647):
  Calls Tryz.prog 69 #[.slice a cs.length cap,.int .i64 other] w λe w'=>e=.returned (.bool ((decide (0<=other)&&decide (other<cs.length))&&Ac.choiceB cs other))/\Below w.heap.size w w':=by
 obtain⟨n,hln⟩:=pE (cs.length);obtain⟨R,hR⟩:=pE (Ac.choiceB cs other);have H:Hid (Ac.Tms w w.heap.size e a cs/\(∀x∈cs,x.size<=2147483647)/\cs.length=n/\Ac.choiceB cs other=R):=⟨hT,hsz,hln,hR⟩;rw[hln]at hn;rw[hln,hR];clear hT hsz hln hR;have ez:((n:Nat):Int)=(n:Int):=rfl;clear ez
 by_cases o1:other<0
 ·have f1:decide (other<0)=true:=decide_eq_true o1
  have HQ:Hid (((decide (0<=other)&&decide (other<(n:Int)))&&R)=false):=by show _=_;rw[decide_eq_false (show¬0<=other by omega)];rfl
  rw[HQ.out];clear o1 HQ
  go_enter Tryz.func69,Tryz.ntmps69
  go_wp2;go_ret;exact⟨rfl,Below.refl _ w⟩
 have f1:decide (other<0)=false:=decide_eq_false o1
 by_cases o2:(n:Int)<=other
 ·have f2:decide ((n:Int)<=other)=true:=decide_eq_true o2
  have HQ:Hid (((decide (0<=other)&&decide (other<(n:Int)))&&R)=false):=by show _=_;rw[decide_eq_false (show¬other<(n:Int)by omega),Bool.and_false];rfl
  rw[HQ.out];clear o1 o2 HQ
  go_enter Tryz.func69,Tryz.ntmps69
  go_wp2;go_ret;exact⟨rfl,Below.refl _ w⟩
 have f2:decide ((n:Int)<=other)=false:=decide_eq_false o2;rw[decide_eq_true (show 0<=other by omega),decide_eq_true (show other<(n:Int)by omega),Bool.true_and,Bool.true_and];clear o1 o2
 go_enter Tryz.func69,Tryz.ntmps69
 go_wp2
 go_loopg [5,17] n (λgk _ i wr=>∃j:Nat,gk+j=n/\i=.int .i64 j/\Hid ((∀i (h:i<cs.length),i<j->Ac.choiceAt other i cs[i]=true)/\Below w.heap.size w wr))
 case atStart=>exact⟨0,by omega,rfl,λi _ h=>absurd h (by omega),Below.refl _ w⟩
 case round=>
  obtain⟨j,hj,rfl,HJ⟩:=hrel
  by_cases hjn:j<n
  rotate_left
  ·have hd:decide ((j:Int)<n)=false:=decide_eq_false (by omega)
   go_wp2;go_ret;refine⟨Tk.ret_bool ?_,HJ.out.2⟩;rw[<-H.out.2.2.2];exact(Ac.choice_yes λi h=>HJ.out.1 i h (by have:=H.out.2.2.1;omega)).symm
  have hd:decide ((j:Int)<n)=true:=decide_eq_true (by omega);have hjk:j<cs.length:=by rw[H.out.2.2.1];exact hjn
  obtain⟨g,off,u,rfl,hg,q0,q1,q2,hlu⟩:=H.out.1 j hjk;obtain⟨x,hx⟩:=pE (cs[j]);have hxs:=H.out.2.1 _ (List.getElem_mem hjk);rw[hx]at q0 q1 hlu hxs;rw[<-HJ.out.2.cell (p:=⟨g,off+j*3,none⟩) hg]at q0;rw[<-HJ.out.2.cell (p:=⟨g,off+j*3+1,none⟩) hg]at q1;rw[<-HJ.out.2.cell (p:=⟨g,off+j*3+2,none⟩) hg]at q2;obtain⟨ua,uc,rfl⟩:=hlu.shape;obtain⟨un,hun⟩:=pE (x.ks.length);obtain⟨y0,hy0⟩:=pE (x.op);obtain⟨y1,hy1⟩:=pE (x.num);rw[hun]at q2 hlu;rw[hy0]at q0;rw[hy1]at q1;have BA:Below wr.heap.size wr (wr.alloc (.cells #[.int .i64 y0,.int .i64 y1,.slice ua un uc] 24)):=(Below.refl _ wr).alloc (Nat.le_refl _) _;obtain⟨W1,hW1⟩:=pE (wr.alloc (.cells #[.int .i64 y0,.int .i64 y1,.slice ua un uc] 24));rw[hW1]at BA;have bw:Below w.heap.size w W1:=HJ.out.2.trans (BA.mono HJ.out.2.size);have hlW:Tm.Lies W1 W1.heap.size e (.slice ua un uc) x:=(hlu.below bw).wider bw.size;have CS:=Tryz.r16none_any e x (.slice ua un uc) W1 hlW hxs;have CO:=Tryz.r16of_any 2 e x (.slice ua un uc) W1 hlW hxs;rw[hy0,hy1]at CS CO;have HS:Hid _:=CS;have HO:Hid _:=CO;have HX:Hid (cs[j]=x/\Below w.heap.size w W1):=⟨hx,bw⟩;have HW:Hid (wr.alloc (.cells #[.int .i64 y0,.int .i64 y1,.slice ua un uc] 24)=W1):=hW1
  have GV:W1.heap[wr.heap.size]? =some (.cells #[.int .i64 y0,.int .i64 y1,.slice ua un uc] 24 (0,0)):=by rw[<-hW1];exact heap_alloc_new wr _
  have v0:W1.cell? ⟨wr.heap.size,0,none⟩=some (.int .i64 y0):=by simp[World.cell?,GV]
  have v1:W1.cell? ⟨wr.heap.size,1,none⟩=some (.int .i64 y1):=by simp[World.cell?,GV]
  have v2:W1.cell? ⟨wr.heap.size,2,none⟩=some (.slice ua un uc):=by simp[World.cell?,GV]
  have hj0:(0:Int)<=j:=by omega
  have hjn':(j:Int)<n:=by omega
  clear BA hW1 bw hlW CS CO hlu hxs hx hun hy0 hy1 GV
  by_cases hjo:(j:Int)=other
  ·have e1:((j:Int)==other)=true:=by simpa using hjo
   have e2:((j:Int) !=other)=false:=by simpa using hjo
   have HE:Hid (Ac.choiceAt other j x=Nt.zeroB x):=by show _=_;unfold Ac.choiceAt;rw[if_pos hjo]
   obtain⟨r,hr⟩:=pE (Nt.zeroB x);rw[hr]at HE HS;clear hjo HO hr
   go_upto_region 6 with fail
   rw[HW.out]
   go_wp2_with fail
   refine Calls.mono HS.out ?_;rintro e W2 ⟨rfl,hb2⟩;have B2:Hid (Below w.heap.size w W2):=HX.out.2.trans (hb2.mono HX.out.2.size);clear hb2 HS
   cases r with
   |true=>
    go_wp2;go_roundg (gk-1)
    case measure=>omega
    case rel=>
     refine⟨j+1,by omega,by go_num,λi h hi=> ?_,B2.out⟩
     rcases Nat.lt_or_ge i j with h1|h1
     ·exact HJ.out.1 i h h1
     have:i=j:=by omega
     subst this;rw[HX.out.1,HE.out]
   |false=>
    go_wp2;go_ret;refine⟨Tk.ret_bool ?_,B2.out⟩;rw[<-H.out.2.2.2];exact(Ac.choice_no hjk (by rw[HX.out.1,HE.out])).symm
  have e1:((j:Int)==other)=false:=by simpa using hjo
  have e2:((j:Int) !=other)=true:=by simpa using hjo
  have HE:Hid (Ac.choiceAt other j x=Nt.ofB x 2):=by show _=_;unfold Ac.choiceAt;rw[if_neg hjo]
  obtain⟨r,hr⟩:=pE (Nt.ofB x 2);rw[hr]at HE HO;clear hjo HS hr
  go_upto_region 6 with fail
  rw[HW.out]
  go_wp2_with fail
  refine Calls.mono HO.out ?_;rintro e W2 ⟨rfl,hb2⟩;have B2:Hid (Below w.heap.size w W2):=HX.out.2.trans (hb2.mono HX.out.2.size);clear hb2 HO
  cases r with
  |true=>
   go_wp2;go_roundg (gk-1)
   case measure=>omega
   case rel=>
    refine⟨j+1,by omega,by go_num,λi h hi=> ?_,B2.out⟩
    rcases Nat.lt_or_ge i j with h1|h1
    ·exact HJ.out.1 i h h1
    have:i=j:=by omega
    subst this;rw[HX.out.1,HE.out]
  |false=>
   go_wp2;go_ret;refine⟨Tk.ret_bool ?_,B2.out⟩;rw[<-H.out.2.2.2];exact(Ac.choice_no hjk (by rw[HX.out.1,HE.out])).symm
end Go.Proofs
