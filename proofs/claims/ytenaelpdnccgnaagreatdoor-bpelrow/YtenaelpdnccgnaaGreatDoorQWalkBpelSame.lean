/-
  Proved here: of any two activities that can be arguments and are right, the program's Check of the two in a row answers as the document has it, the statement's own functions being the measure, and the statement's example holds (BpelRow, promise 16.1), whatever memory the call begins in; no condition beyond the row's own.
-/
import Derived.Test.YtenaelpdnccgnaaGreatDoorQBwTwice
import Derived.Test.YtenaelpdnccgnaaGreatDoorQBwLarge
import Derived.Test.YtenaelpdnccgnaaGreatDoorQBwSame
import Derived.Test.YtenaelpdnccgnaaGreatDoorQAcLawRefW
import Derived.Test.YtenaelpdnccgnaaGreatDoorQAcRCheck
import Derived.Test.YtenaelpdnccgnaaGreatDoorCards
import Derived.Test.YtenaelpdnccgnaaGreatDoorTie
import Derived.Deep.DeepHandedRow
set_option maxRecDepth 100000
set_option maxHeartbeats 32000000
namespace Go.Proofs
open Go.RowKit
theorem Bw.fits_of {T:Ac}(h:Bw.Small T):T.Fit:=
 have dp:∀x:Tm,Bw.Sm x->x.size<=2147483647/\x.depth<=1000:=λx hx=>⟨by have:=hx.1;omega,hx.2⟩
 ⟨dp _ h.t,λx hx=>dp _ (h.c x hx),λx hx=>dp _ (h.n x hx),λx hx=>dp _ (h.f x hx),by have:=h.cl;omega,by have:=h.kl;omega,by have:=h.ll;omega,by have:=h.nl;omega,by have:=h.fl;omega⟩
theorem Bw.ref_any {w:World}{d e:Nat}{T:Ac}{V:Ac.Vs}(hT:Ac.Lies w w.heap.size e d V T)(hsz:T.size<=100000)(hl:T.All (λx=>x.ls.length<=100))(W:World)(hb:Below w.heap.size w W):
  Calls Tryz.prog 13 #[.agg (Ac.row T V)] W λe' w'=>∃U d',e'=.returned (.agg (Ac.row T U))/\(∀X,Below w'.heap.size w' X->Ac.Lies X X.heap.size e d' U T)/\Below W.heap.size W w':=by
 refine(Ak.refC d w.heap.size e T V W hb.size (hT.keep hb.block) hsz hl).mono ?_;rintro e' w' ⟨hb',U,d',rfl,h⟩;have h1:=hb.size;have h2:=hb'.size;refine⟨U,d',rfl,λX hX=> ?_,hb'⟩;have h3:=hX.size;have h4:Ac.LiesP X w.heap.size e (λk=>W.heap.size<=k/\k<w'.heap.size) d' U T:=h.keep (λk hk=>hX.block k (by omega)) (λk h=>hX.block k h.2) λ_ h=>h;exact h4.lies (by omega) λk hk=>by omega
end Go.Proofs
namespace Go.Proofs.YtenaelpdnccgnaaGreatDoor.BpelSame
open Go.RowKit
end Go.Proofs.YtenaelpdnccgnaaGreatDoor.BpelSame
namespace Go.Proofs.YtenaelpdnccgnaaGreatDoor.BpelRow
open Go.RowKit
theorem walk (S T:Ac)(U V:Ac.Vs)(e d e' d':Nat)(w:World)(hS:Ac.Lies w w.heap.size e d U S)(hT:Ac.Lies w w.heap.size e' d' V T)(hO:Tk.Ops w):
  Calls Tryz.prog 8 #[.agg (Ac.row S U),.agg (Ac.row T V)] w λe w'=>e=.returned (.bool true)/\Below w.heap.size w w':=by
 have h0:0<w.heap.size:=by have:=hO.lt;omega
 obtain⟨xs,hxs⟩:=pE (Ac.row S U);obtain⟨ys,hys⟩:=pE (Ac.row T V);have hszx:xs.size=12:=by rw[<-hxs];rfl
 have hszy:ys.size=12:=by rw[<-hys];rfl
 obtain⟨w0,hw0⟩:=pE (w.alloc (.cells xs 32));have B0:=pB hw0;have N0:=pH hw0;have z0:w0.heap.size=w.heap.size+1:=by rw[<-hw0];simp
 obtain⟨w1,hw1⟩:=pE (w0.alloc (.cells ys 32));have B1':=pB hw1;have N1:=pH hw1;rw[z0]at N1;have B1:Below w.heap.size w w1:=B0.trans (B1'.mono B0.size);have hl0:=(Array.getElem?_eq_some_iff.1 N0).1;have hl1:=(Array.getElem?_eq_some_iff.1 N1).1;have N0':w1.heap[w.heap.size]? =some (.cells xs 32 (0,0)):=(B1'.block _ hl0).trans N0;obtain⟨w2,hw2⟩:=pE (w1.alloc (.cells #[.int .i64 600] 36));have B2:=pB hw2;have R2:Tk.Rm w1.heap.size ((600:Nat):Int) w2:=pH hw2;have B02:Below w.heap.size w w2:=B1.trans (B2.mono B1.size);have CL0:=Tryz.alarge_any e d S U 600 w1.heap.size 1 w.heap.size w2 (hS.keep B02.block) (by omega) B02.size R2 (by omega) (by omega);rw[hxs]at CL0;have CL:Hid _:=CL0
 have HX:Hid (∀W,Below w1.heap.size w1 W->W.rangeAt w.heap.size 0 xs.toList/\W.rangeAt (w.heap.size+1) 0 ys.toList/\Below w.heap.size w W):=λW hb=>by
  have h:=(hb.block _ (by omega)).trans N0';have h':=(hb.block _ hl1).trans N1;refine⟨λj v hv=> ?_,λj v hv=> ?_,B1.trans (hb.mono B1.size)⟩
  ·rw[Nat.zero_add]
   simp only[World.cell?,h];simpa using hv
  rw[Nat.zero_add];simp only[World.cell?,h'];simpa using hv
 have H0:Hid _:=hw0;have H1:Hid _:=hw1;have H2:Hid _:=hw2;have HS:Hid (∀W,Below w.heap.size w W->Calls Tryz.prog 10 #[] W λe w'=>e=.returned (.bool true)/\Below W.heap.size W w'):=λW hb=>Tryz.twice_any W (hO.below hb hO.lt);have HTO:Hid (Tk.Ops w):=hO;have HT:Hid (Ac.Lies w w.heap.size e d U S/\Ac.Lies w w.heap.size e' d' V T/\Ac.row S U=xs/\Ac.row T V=ys/\0<w.heap.size):=⟨hS,hT,hxs,hys,h0⟩;have HBB:Hid (Below w1.heap.size w1 w2/\w.heap.size<w1.heap.size):=⟨B2,by omega⟩;have ha:=Tryz.underlying32;have ia:(Tryz.prog.info? 32).map (·.size)=some xs.size:=by rw[hszx];exact Bw.info
 have ilx:(Tryz.prog.info? 32).map (·.size)=some xs.toList.length:=by rw[ia];simp
 have ily:(Tryz.prog.info? 32).map (·.size)=some ys.toList.length:=by rw[Bw.info,Array.length_toList,hszy]
 rw[hxs,hys];clear hS hT hO hxs hys hszx hszy hw0 hw1 hw2 B0 B1' B1 N0 N1 z0 hl0 hl1 B2 R2 B02 CL0 h0
 go_enter Tryz.func8,Tryz.ntmps8
 go_upto_region 1 with fail
 rw[H0.out,H1.out];clear H0 H1
 go_wp2_with (refine wpList_load_row rfl 32 _ rfl _ rfl 32 _ (0,0) _ N0' ha rfl ia ?_)
 rw[H2.out];refine Calls.mono CL.out ?_;rintro e1 W3 ⟨hb3,⟨rfl,hsm,k3,hk3,-⟩|rfl⟩
 rotate_left
 ·have HB3:Hid (Below w.heap.size w W3):=(HX.out W3 (HBB.out.1.trans (hb3.below HBB.out.1.size (by intro i hi;show¬i=w1.heap.size;omega)))).2.2
  clear hb3 CL N0'
  go_wp2_with fail
  refine Calls.mono (HS.out W3 HB3.out) ?_;rintro e2 W4 ⟨rfl,hb4⟩;have HB4:Hid (Below w.heap.size w W4):=HB3.out.trans (hb4.mono HB3.out.size);clear hb4;go_wp2;go_ret;exact⟨rfl,HB4.out⟩
 have HB3:Hid (Below w1.heap.size w1 W3):=HBB.out.1.trans (hb3.below HBB.out.1.size (by intro i hi;show¬i=w1.heap.size;omega));have HSM:Hid (S.All Bw.Small/\S.depth<=1000/\S.size<=600):=⟨hsm.1,by omega,by omega⟩;have RY:=(HX.out W3 HB3.out).2.1;obtain⟨W4,hW4⟩:=pE (W3.alloc (.cells #[.int .i64 600] 36));have B4:=pB hW4;have R4:Tk.Rm W3.heap.size ((600:Nat):Int) W4:=pH hW4;have b03:=(HX.out W3 HB3.out).2.2;have B04:Below w.heap.size w W4:=b03.trans (B4.mono b03.size);have CL1:=Tryz.alarge_any e' d' T V 600 W3.heap.size 1 w.heap.size W4 (HT.out.2.1.keep B04.block) b03.size B04.size R4 (by omega) (by omega);rw[HT.out.2.2.2.1]at CL1;have CM:Hid _:=CL1;have H4:Hid _:=hW4;have HB4:Hid (Below W3.heap.size W3 W4/\w1.heap.size<=W3.heap.size):=⟨B4,HB3.out.size⟩;clear hb3 CL N0' hsm hk3 H2 hW4 B4 R4 b03 B04 CL1
 go_wp2_with (first
  |refine Ak.load_want (by rfl) 32 _ rfl (w.heap.size+1) 0 rfl ys.toList _ RY ha rfl ily ?_
  |fail)
 rw[H4.out];refine Calls.mono CM.out ?_;rintro e1 W5 ⟨hb5,⟨rfl,hsm,k5,hk5,-⟩|rfl⟩
 rotate_left
 ·have HB5:Hid (Below w.heap.size w W5):=(HX.out W5 (HB3.out.trans ((HB4.out.1.trans (hb5.below HB4.out.1.size (by intro i hi;show¬i=W3.heap.size;omega))).mono HB4.out.2))).2.2
  clear hb5 CM RY
  go_wp2_with fail
  refine Calls.mono (HS.out W5 HB5.out) ?_;rintro e2 W6 ⟨rfl,hb6⟩;have HB6:Hid (Below w.heap.size w W6):=HB5.out.trans (hb6.mono HB5.out.size);clear hb6;go_wp2;go_ret;exact⟨rfl,HB6.out⟩
 have HB5:Hid (Below w1.heap.size w1 W5):=HB3.out.trans ((HB4.out.1.trans (hb5.below HB4.out.1.size (by intro i hi;show¬i=W3.heap.size;omega))).mono HB4.out.2);have HTM:Hid (T.All Bw.Small/\T.depth<=1000/\T.size<=600):=⟨hsm.1,by omega,by omega⟩;have HF:Hid (S.All Ac.Fit/\T.All Ac.Fit):=⟨Ac.all_mono (λ_ h=>Bw.fits_of h) S HSM.out.1,Ac.all_mono (λ_ h=>Bw.fits_of h) T hsm.1⟩;clear hb5 CM RY hsm hk5 H4 HB4;obtain⟨ca,hca⟩:=pE S.checkC;obtain⟨cb,hcb⟩:=pE T.checkC
 have CKA:Hid (∀W,Below w1.heap.size w1 W->Calls Tryz.prog 11 #[.agg xs] W λe w'=>e=.returned (.int .i64 ca)/\Below W.heap.size W w'):=λW hb=>by
  have h1:=(HX.out W hb).2.2;have h:=Tryz.aCheck_any d e S U W ((HT.out.1.below h1).wider h1.size) (by have:=HT.out.2.2.2.2;have:=h1.size;omega) (by have:=HSM.out.2.2;omega) HF.out.1 (HTO.out.below h1 HTO.out.lt);rw[HT.out.2.2.1,hca]at h;exact h
 have CKB:Hid (∀W,Below w1.heap.size w1 W->Calls Tryz.prog 11 #[.agg ys] W λe w'=>e=.returned (.int .i64 cb)/\Below W.heap.size W w'):=λW hb=>by
  have h1:=(HX.out W hb).2.2;have h:=Tryz.aCheck_any d' e' T V W ((HT.out.2.1.below h1).wider h1.size) (by have:=HT.out.2.2.2.2;have:=h1.size;omega) (by have:=HTM.out.2.2;omega) HF.out.2 (HTO.out.below h1 HTO.out.lt);rw[HT.out.2.2.2.1,hcb]at h;exact h
 have HCC:Hid (S.checkC=ca/\T.checkC=cb):=⟨hca,hcb⟩;have R5:=(HX.out W5 HB5.out).1;clear hca hcb
 go_wp2_with (first
  |refine Ak.load_want (by rfl) 32 _ rfl w.heap.size 0 rfl xs.toList _ R5 ha rfl ilx ?_
  |refine wpList_load_mid rfl 32 _ rfl w.heap.size 0 rfl xs.toList _ R5 ha rfl ilx ?_
  |fail)
 refine Calls.mono (CKA.out W5 HB5.out) ?_;rintro e1 W6 ⟨rfl,b6⟩;have HB6:Hid (Below w1.heap.size w1 W6):=HB5.out.trans (b6.mono HB5.out.size);clear b6 R5 CKA
 by_cases qa:¬ca=0
 ·have fa:(ca !=0)=true:=by simpa using qa
  clear qa
  go_wp2_with fail
  refine Calls.mono (HS.out W6 (HX.out W6 HB6.out).2.2) ?_;rintro e2 WZ ⟨rfl,hbz⟩;have HBZ:Hid (Below w.heap.size w WZ):=((HX.out W6 HB6.out).2.2).trans (hbz.mono ((HX.out W6 HB6.out).2.2).size);clear hbz;go_wp2;go_ret;exact⟨rfl,HBZ.out⟩
 replace qa:=Decidable.not_not.1 qa;have fa:(ca !=0)=false:=by simpa using qa
 have QA:Hid (ca=0):=qa;have R6:=(HX.out W6 HB6.out).2.1;clear qa
 go_wp2_with (first
  |refine Ak.load_want (by rfl) 32 _ rfl (w.heap.size+1) 0 rfl ys.toList _ R6 ha rfl ily ?_
  |refine wpList_load_mid rfl 32 _ rfl (w.heap.size+1) 0 rfl ys.toList _ R6 ha rfl ily ?_
  |fail)
 refine Calls.mono (CKB.out W6 HB6.out) ?_;rintro e1 W7 ⟨rfl,b7⟩;have HB7:Hid (Below w1.heap.size w1 W7):=HB6.out.trans (b7.mono HB6.out.size);clear b7 R6 CKB
 by_cases qb:¬cb=0
 ·have fb:(cb !=0)=true:=by simpa using qb
  clear qb
  go_wp2_with fail
  refine Calls.mono (HS.out W7 (HX.out W7 HB7.out).2.2) ?_;rintro e2 WZ ⟨rfl,hbz⟩;have HBZ:Hid (Below w.heap.size w WZ):=((HX.out W7 HB7.out).2.2).trans (hbz.mono ((HX.out W7 HB7.out).2.2).size);clear hbz;go_wp2;go_ret;exact⟨rfl,HBZ.out⟩
 replace qb:=Decidable.not_not.1 qb;have fb:(cb !=0)=false:=by simpa using qb
 have QB:Hid (cb=0):=qb;clear qb
 go_upto_region 3 with fail
 obtain⟨a6,b6,a7,b7,a8,b8,a9,b9,aA,bA,aB,bB,hU⟩:=HT.out.1.shape;obtain⟨v6,q6,v7,q7,v8,q8,v9,q9,vA,qA,vB,qB,hV⟩:=HT.out.2.1.shape;obtain⟨s0,s1,s2,s3,s4,s5,n6,n7,n8,n9,nA,nB,hsx⟩:∃s0 s1 s2 s3 s4 s5 n6 n7 n8 n9 nA nB,s0=S.kind/\xs=#[.int .i64 s0,.int .i64 s1,.int .i64 s2,.int .i64 s3,.int .i64 s4,.int .i64 s5,.slice a6 n6 b6,.slice a7 n7 b7,.slice a8 n8 b8,.slice a9 n9 b9,.slice aA nA bA,.slice aB nB bB]:=⟨_,_,_,_,_,_,_,_,_,_,_,_,rfl,by rw[<-HT.out.2.2.1,hU];rfl⟩;obtain⟨t0,t1,t2,t3,t4,t5,m6,m7,m8,m9,mA,mB,hsy⟩:∃t0 t1 t2 t3 t4 t5 m6 m7 m8 m9 mA mB,t0=T.kind/\ys=#[.int .i64 t0,.int .i64 t1,.int .i64 t2,.int .i64 t3,.int .i64 t4,.int .i64 t5,.slice v6 m6 q6,.slice v7 m7 q7,.slice v8 m8 q8,.slice v9 m9 q9,.slice vA mA qA,.slice vB mB qB]:=⟨_,_,_,_,_,_,_,_,_,_,_,_,rfl,by rw[<-HT.out.2.2.2.1,hV];rfl⟩;have HK:Hid (S.kind=s0/\T.kind=t0):=⟨hsx.1.symm,hsy.1.symm⟩;obtain⟨-,rfl⟩:=hsx;obtain⟨-,rfl⟩:=hsy;clear hU hV;obtain⟨R7,R7',-⟩:=HX.out W7 HB7.out
 obtain⟨W8,hW8⟩:=pE (W7.alloc (.cells #[.int .i64 s0,.int .i64 s1,.int .i64 s2,.int .i64 s3,.int .i64 s4,.int .i64 s5,.slice a6 n6 b6,.slice a7 n7 b7,.slice a8 n8 b8,.slice a9 n9 b9,.slice aA nA bA,.slice aB nB bB,.int .i64 t0,.int .i64 t1,.int .i64 t2,.int .i64 t3,.int .i64 t4,.int .i64 t5,.slice v6 m6 q6,.slice v7 m7 q7,.slice v8 m8 q8,.slice v9 m9 q9,.slice vA mA qA,.slice vB mB qB] 32));have B8:=pB hW8;have N8:=pH hW8;have z8:W8.heap.size=W7.heap.size+1:=by rw[<-hW8];simp
 obtain⟨W9,hW9⟩:=pE (W8.alloc (.cells #[.int .i64 6,.int .i64 0,.int .i64 0,.int .i64 0,.int .i64 0,.int .i64 0,.slice none 0 0,.slice none 0 0,.slice (some ⟨W7.heap.size,0,none⟩) 2 2,.slice none 0 0,.slice none 0 0,.slice none 0 0] 32));have B9:=pB hW9;have N9:=pH hW9;rw[z8]at N9;have hl8:=(Array.getElem?_eq_some_iff.1 N8).1;have hl9:=(Array.getElem?_eq_some_iff.1 N9).1;have b79:Below W7.heap.size W7 W9:=B8.trans (B9.mono B8.size);have b19:Below w1.heap.size w1 W9:=HB7.out.trans (b79.mono HB7.out.size);have i12:∀{i:Nat},i<12->i=0∨i=1∨i=2∨i=3∨i=4∨i=5∨i=6∨i=7∨i=8∨i=9∨i=10∨i=11:=by omega
 have N8':=(B9.block _ hl8).trans N8
 have rS:Ac.Row W9 W7.heap.size 0 (Ac.row S U):=by
  rw[HT.out.2.2.1]
  exact Br.row_at N8' 0 _ λi hi=>by rcases i12 hi with rfl|rfl|rfl|rfl|rfl|rfl|rfl|rfl|rfl|rfl|rfl|rfl<;>rfl
 have rT:Ac.Row W9 W7.heap.size 12 (Ac.row T V):=by
  rw[HT.out.2.2.2.1]
  exact Br.row_at N8' 12 _ λi hi=>by rcases i12 hi with rfl|rfl|rfl|rfl|rfl|rfl|rfl|rfl|rfl|rfl|rfl|rfl<;>rfl
 have h09:=(HX.out W9 b19).2.2;obtain⟨E,hE⟩:=pE (e+e'+1);obtain⟨D,hD⟩:=pE (d+d'+1);have LX:Ac.Lies W9 W9.heap.size (e+e'+1) (d+d'+1) (Bw.vS W7.heap.size) (Br.seq S T):=Br.seq_lies W9 W9.heap.size W7.heap.size e d e' d' U V S T (by omega) ((HT.out.1.below h09).wider h09.size) ((HT.out.2.1.below h09).wider h09.size) rS rT;rw[hE,hD]at LX;have HLX:Hid _:=LX
 have HX9:Hid (∀W,Below W9.heap.size W9 W->W.rangeAt (W7.heap.size+1) 0 (#[.int .i64 6,.int .i64 0,.int .i64 0,.int .i64 0,.int .i64 0,.int .i64 0,.slice none 0 0,.slice none 0 0,.slice (some ⟨W7.heap.size,0,none⟩) 2 2,.slice none 0 0,.slice none 0 0,.slice none 0 0]:Array Value).toList/\Below w.heap.size w W/\W.cell? ⟨w.heap.size,0,none⟩=some (.int .i64 s0)/\W.cell? ⟨w.heap.size+1,0,none⟩=some (.int .i64 t0)):=λW hb=>by
  have h:=(hb.block _ hl9).trans N9;have b1:=b19.trans (hb.mono b19.size);obtain⟨r1,r2,r3⟩:=HX.out W b1;refine⟨λj v hv=> ?_,r3,r1 0 _ rfl,r2 0 _ rfl⟩;rw[Nat.zero_add];simp only[World.cell?,h];simpa using hv
 have H8:Hid _:=hW8;have H9:Hid _:=hW9;have i9:(Tryz.prog.info? 32).map (·.size)=some (#[.int .i64 6,.int .i64 0,.int .i64 0,.int .i64 0,.int .i64 0,.int .i64 0,.slice none 0 0,.slice none 0 0,.slice (some ⟨W7.heap.size,0,none⟩) 2 2,.slice none 0 0,.slice none 0 0,.slice none 0 0]:Array Value).toList.length:=Bw.info;obtain⟨R9,-⟩:=HX9.out W9 (Below.refl _ _);clear hE hD hW8 hW9 B8 B9 N8 N9 z8 hl8 hl9 b79 b19 i12 N8' rS rT h09 LX
 go_upto_region 4 with(first
  |refine wpList_load_mid rfl 32 _ rfl w.heap.size 0 rfl (#[.int .i64 s0,.int .i64 s1,.int .i64 s2,.int .i64 s3,.int .i64 s4,.int .i64 s5,.slice a6 n6 b6,.slice a7 n7 b7,.slice a8 n8 b8,.slice a9 n9 b9,.slice aA nA bA,.slice aB nB bB]:Array Value).toList _ R7 ha rfl ilx ?_
  |refine wpList_load_mid rfl 32 _ rfl (w.heap.size+1) 0 rfl (#[.int .i64 t0,.int .i64 t1,.int .i64 t2,.int .i64 t3,.int .i64 t4,.int .i64 t5,.slice v6 m6 q6,.slice v7 m7 q7,.slice v8 m8 q8,.slice v9 m9 q9,.slice vA mA qA,.slice vB mB qB]:Array Value).toList _ R7' ha rfl ily ?_)
 rw[H8.out,H9.out];clear H8 H9 R7 R7';obtain⟨cx,hcx⟩:=pE (Br.seq S T).checkC;obtain⟨nx,hnx⟩:=pE (Br.seq S T).size;obtain⟨dx,hdx⟩:=pE (Br.seq S T).depth;have HCX:Hid ((Br.seq S T).checkC=cx/\(Br.seq S T).size=nx/\(Br.seq S T).depth=dx):=⟨hcx,hnx,hdx⟩;have hsx:(Br.seq S T).size<=1300:=by rw[Br.size_seq];have:=HSM.out.2.2;have:=HTM.out.2.2;omega
 have HFX:Hid ((Br.seq S T).All Ac.Fit/\(Br.seq S T).size<=1300):=⟨Bw.seq_fit S T HF.out.1 HF.out.2,hsx⟩
 have HLX2:Hid ((Br.seq S T).All λx=>x.ls.length<=100):=by
  show Ac.All _ _;rw[Ac.all_eq];exact⟨Nat.zero_le _,Ac.all_mono (λ_ h=>by have:=h.ll;omega) S HSM.out.1,Ac.all_mono (λ_ h=>by have:=h.ll;omega) T HTM.out.1,trivial⟩
 have CKX:Hid (∀W,Below W9.heap.size W9 W->Calls Tryz.prog 11 #[.agg #[.int .i64 6,.int .i64 0,.int .i64 0,.int .i64 0,.int .i64 0,.int .i64 0,.slice none 0 0,.slice none 0 0,.slice (some ⟨W7.heap.size,0,none⟩) 2 2,.slice none 0 0,.slice none 0 0,.slice none 0 0]] W λe w'=>e=.returned (.int .i64 cx)/\Below W.heap.size W w'):=λW hb=>by
  have h1:=(HX9.out W hb).2.1;have h:=Tryz.aCheck_any _ _ (Br.seq S T) _ W (Ac.Lies.wider hb.size (Ac.Lies.below hb HLX.out)) (by have:=HT.out.2.2.2.2;have:=h1.size;omega) (by have:=HFX.out.2;omega) HFX.out.1 (HTO.out.below h1 HTO.out.lt);rw[HCX.out.1]at h;exact h
 have CRX:=Bw.ref_any HLX.out (by have:=HFX.out.2;omega) HLX2.out W9 (Below.refl _ _);have HRX:Hid (Calls Tryz.prog 13 #[.agg #[.int .i64 6,.int .i64 0,.int .i64 0,.int .i64 0,.int .i64 0,.int .i64 0,.slice none 0 0,.slice none 0 0,.slice (some ⟨W7.heap.size,0,none⟩) 2 2,.slice none 0 0,.slice none 0 0,.slice none 0 0]] W9 λe1 w'=>∃U d1,e1=.returned (.agg (Ac.row (Br.seq S T) U))/\(∀Y,Below w'.heap.size w' Y->Ac.Lies Y Y.heap.size E d1 U (Br.seq S T))/\Below W9.heap.size W9 w'):=CRX;clear hcx hnx hdx hsx CRX
 go_wp2_with (first
  |refine Ak.load_want (by rfl) 32 _ rfl (W7.heap.size+1) 0 rfl (#[.int .i64 6,.int .i64 0,.int .i64 0,.int .i64 0,.int .i64 0,.int .i64 0,.slice none 0 0,.slice none 0 0,.slice (some ⟨W7.heap.size,0,none⟩) 2 2,.slice none 0 0,.slice none 0 0,.slice none 0 0]:Array Value).toList _ R9 ha rfl i9 ?_
  |refine wpList_load_mid rfl 32 _ rfl (W7.heap.size+1) 0 rfl (#[.int .i64 6,.int .i64 0,.int .i64 0,.int .i64 0,.int .i64 0,.int .i64 0,.slice none 0 0,.slice none 0 0,.slice (some ⟨W7.heap.size,0,none⟩) 2 2,.slice none 0 0,.slice none 0 0,.slice none 0 0]:Array Value).toList _ R9 ha rfl i9 ?_
  |fail)
 refine Calls.mono HRX.out ?_;rintro e1 WA ⟨U1,d1,rfl,hl,hbA⟩;obtain⟨zs,hzs⟩:=pE (Ac.row (Br.seq S T) U1);have hz12:zs.size=12:=by rw[<-hzs];rfl
 have hone:zs.all (·.oneCell')=true:=by rw[<-hzs];exact(hl WA (Below.refl _ _)).ones
 rw[hzs];obtain⟨WZ,hWZ⟩:=pE (WA.alloc (.cells #[.int .i64 0,.int .i64 0,.int .i64 0,.int .i64 0,.int .i64 0,.int .i64 0,.slice none 0 0,.slice none 0 0,.slice none 0 0,.slice none 0 0,.slice none 0 0,.slice none 0 0] 44));have NZ:=pH hWZ;obtain⟨WB,hWB⟩:=pE (WZ.setRow WA.heap.size zs);have BZ:Below WA.heap.size WA WB:=by rw[<-hWB];exact Tk.below_row (pB hWZ) (Nat.le_refl _) _
 have NB:WB.heap[WA.heap.size]? =some (.cells zs 44 (0,0)):=by rw[<-hWB];exact setRow_heap _ _ _ _ _ _ NZ
 have BB:Below W9.heap.size W9 WB:=hbA.trans (BZ.mono hbA.size);have hlB:=(Array.getElem?_eq_some_iff.1 NB).1
 have HZ:Hid (∀W,Below WB.heap.size WB W->W.rangeAt WA.heap.size 0 zs.toList/\Ac.Lies W W.heap.size E d1 U1 (Br.seq S T)/\Below W9.heap.size W9 W):=λW hb=>by
  have h:=(hb.block _ hlB).trans NB;refine⟨λj v hv=> ?_,hl W (BZ.trans (hb.mono BZ.size)),BB.trans (hb.mono BB.size)⟩;rw[Nat.zero_add];simp only[World.cell?,h];simpa using hv
 have HRW:Hid (Ac.row (Br.seq S T) U1=zs):=hzs;have HWZ:Hid _:=hWZ;have HWB:Hid _:=hWB;have hu:=Tryz.underlying44;have iz:(Tryz.prog.info? 44).map (·.size)=some zs.size:=by rw[hz12];exact Bw.rinfo
 have izl:(Tryz.prog.info? 44).map (·.size)=some zs.toList.length:=by rw[Array.length_toList,hz12];exact Bw.rinfo
 have ez:(#[.int .i64 0,.int .i64 0,.int .i64 0,.int .i64 0,.int .i64 0,.int .i64 0,.slice none 0 0,.slice none 0 0,.slice none 0 0,.slice none 0 0,.slice none 0 0,.slice none 0 0]:Array Value).size=zs.size:=hz12.symm;have HXZ:Hid (∀W,Below WB.heap.size WB W->W.rangeAt (W7.heap.size+1) 0 (#[.int .i64 6,.int .i64 0,.int .i64 0,.int .i64 0,.int .i64 0,.int .i64 0,.slice none 0 0,.slice none 0 0,.slice (some ⟨W7.heap.size,0,none⟩) 2 2,.slice none 0 0,.slice none 0 0,.slice none 0 0]:Array Value).toList/\Below w.heap.size w W/\W.cell? ⟨w.heap.size,0,none⟩=some (.int .i64 s0)/\W.cell? ⟨w.heap.size+1,0,none⟩=some (.int .i64 t0)):=λW hb=>HX9.out W (HZ.out W hb).2.2;clear hl hbA hzs hz12 hWZ hWB BZ NB BB hlB R9 HRX
 go_upto_region 5 with(first
  |(rw[HWZ.out];refine wpList_store_row rfl 44 _ _ rfl WA.heap.size zs rfl rfl 44 _ NZ iz ez hone ?_)
  |refine wpList_store_row rfl 44 _ _ rfl WA.heap.size zs rfl rfl 44 _ NZ iz ez hone ?_)
 rw[HWB.out];obtain⟨RB,-⟩:=HXZ.out WB (Below.refl _ _);clear NZ HWZ HWB iz ez hone
 go_wp2_with (first
  |refine Ak.load_want (by rfl) 32 _ rfl (W7.heap.size+1) 0 rfl (#[.int .i64 6,.int .i64 0,.int .i64 0,.int .i64 0,.int .i64 0,.int .i64 0,.slice none 0 0,.slice none 0 0,.slice (some ⟨W7.heap.size,0,none⟩) 2 2,.slice none 0 0,.slice none 0 0,.slice none 0 0]:Array Value).toList _ RB ha rfl i9 ?_
  |refine wpList_load_mid rfl 32 _ rfl (W7.heap.size+1) 0 rfl (#[.int .i64 6,.int .i64 0,.int .i64 0,.int .i64 0,.int .i64 0,.int .i64 0,.slice none 0 0,.slice none 0 0,.slice (some ⟨W7.heap.size,0,none⟩) 2 2,.slice none 0 0,.slice none 0 0,.slice none 0 0]:Array Value).toList _ RB ha rfl i9 ?_
  |fail)
 refine Calls.mono (CKX.out WB (HZ.out WB (Below.refl _ _)).2.2) ?_;rintro e1 WC ⟨rfl,bC⟩;have HC:Hid (Below WB.heap.size WB WC):=bC;have RC:=(HZ.out WC bC).1
 have CSZ:Hid (∀W,Below WB.heap.size WB W->Calls Tryz.prog 21 #[.agg zs] W λe w'=>e=.returned (.int .i64 (nx:Int))/\Below W.heap.size W w'):=λW hb=>by
  have h:=Tryz.r16Size_any _ _ (Br.seq S T) U1 W (HZ.out W hb).2.1 (by have:=HFX.out.2;omega);rw[HRW.out,HCX.out.2.1]at h;exact h
 have CDP:Hid (∀W,Below WB.heap.size WB W->Calls Tryz.prog 22 #[.agg zs] W λe w'=>e=.returned (.int .i64 (dx:Int))/\Below W.heap.size W w'):=λW hb=>by
  have h:=Tryz.r16Depth_any _ _ (Br.seq S T) U1 W (HZ.out W hb).2.1 (by have:=HFX.out.2;omega);rw[HRW.out,HCX.out.2.2]at h;exact h
 have CRK:Hid (∀W,Below WB.heap.size WB W->Calls Tryz.prog 12 #[.agg zs] W λe w'=>e=.returned (.int .i64 cx)/\Below W.heap.size W w'):=λW hb=>by
  have h:=Tryz.r16Check_any _ _ (Br.seq S T) U1 W (HZ.out W hb).2.1 HFX.out.1 (by have:=HFX.out.2;omega);rw[HRW.out,HCX.out.1]at h;exact h
 clear bC RB CKX
 go_wp2_with (first
  |refine Ak.load_want (by rfl) 44 _ rfl WA.heap.size 0 rfl zs.toList _ RC hu rfl izl ?_
  |refine wpList_load_mid rfl 44 _ rfl WA.heap.size 0 rfl zs.toList _ RC hu rfl izl ?_
  |fail)
 refine Calls.mono (CSZ.out WC HC.out) ?_;rintro e1 WD ⟨rfl,bD⟩;have HD:Hid (Below WB.heap.size WB WD):=HC.out.trans (bD.mono HC.out.size);clear bD RC CSZ
 by_cases qn:96<nx
 ·have f1:decide (96<(nx:Int))=true:=decide_eq_true (by omega)
  have f1':decide (96<nx)=true:=decide_eq_true qn
  have HV:Hid (cx=2):=by
   show _=_;rw[<-HCX.out.1];exact Br.check_long S T (.inl (by rw[HCX.out.2.1];exact qn))
  obtain rfl:=HV.out;clear qn
  go_wp2_with fail
  refine Calls.mono (HS.out WD (HXZ.out WD HD.out).2.1) ?_;rintro e2 WZ ⟨rfl,hbz⟩;have HBZ:Hid (Below w.heap.size w WZ):=((HXZ.out WD HD.out).2.1).trans (hbz.mono ((HXZ.out WD HD.out).2.1).size);clear hbz;go_wp2;go_ret;exact⟨rfl,HBZ.out⟩
 have f1:decide (96<(nx:Int))=false:=decide_eq_false (by omega);have f1':decide (96<nx)=false:=decide_eq_false qn;have QN:Hid (¬96<nx):=qn;have RD:=(HZ.out WD HD.out).1;clear qn
 go_wp2_with (first
  |refine Ak.load_want (by rfl) 44 _ rfl WA.heap.size 0 rfl zs.toList _ RD hu rfl izl ?_
  |refine wpList_load_mid rfl 44 _ rfl WA.heap.size 0 rfl zs.toList _ RD hu rfl izl ?_
  |fail)
 refine Calls.mono (CDP.out WD HD.out) ?_;rintro e1 WE ⟨rfl,bE⟩;have HE:Hid (Below WB.heap.size WB WE):=HD.out.trans (bE.mono HD.out.size);clear bE RD CDP
 by_cases qd:24<dx
 ·have f2:decide (24<(dx:Int))=true:=decide_eq_true (by omega)
  have f2':decide (24<dx)=true:=decide_eq_true qd
  have HV:Hid (cx=2):=by
   show _=_;rw[<-HCX.out.1];exact Br.check_long S T (.inr (by rw[HCX.out.2.2];exact qd))
  obtain rfl:=HV.out;clear qd
  go_wp2_with fail
  refine Calls.mono (HS.out WE (HXZ.out WE HE.out).2.1) ?_;rintro e2 WZ ⟨rfl,hbz⟩;have HBZ:Hid (Below w.heap.size w WZ):=((HXZ.out WE HE.out).2.1).trans (hbz.mono ((HXZ.out WE HE.out).2.1).size);clear hbz;go_wp2;go_ret;exact⟨rfl,HBZ.out⟩
 have f2:decide (24<(dx:Int))=false:=decide_eq_false (by omega);have f2':decide (24<dx)=false:=decide_eq_false qd
 have HBIG:Hid (¬(96<(Br.seq S T).size∨24<(Br.seq S T).depth)):=by
  show¬_;rw[HCX.out.2.1,HCX.out.2.2];have:=QN.out;omega
 obtain⟨-,-,k0,k1⟩:=HXZ.out WE HE.out
 have HKK:Hid (¬(s0<13/\t0<13)->cx=4):=λh=>by
  rw[<-HCX.out.1];exact Br.check_form S T (HCC.out.1.trans QA.out) (HCC.out.2.trans QB.out) HBIG.out (by rw[HK.out.1,HK.out.2];exact h)
 clear qd
 by_cases qk:13<=s0∨13<=t0
 ·have hk:decide (13<=s0)=true∨(decide (13<=s0)=false/\decide (13<=t0)=true):=by
   by_cases h:13<=s0
   ·exact .inl (decide_eq_true h)
   exact .inr ⟨decide_eq_false h,decide_eq_true (by omega)⟩
  obtain rfl:=HKK.out (by omega);clear qk
  rcases hk with f3|⟨f3,f4⟩<;>
  ·go_wp2_with fail
   refine Calls.mono (HS.out WE (HXZ.out WE HE.out).2.1) ?_;rintro e2 WZ ⟨rfl,hbz⟩;have HBZ:Hid (Below w.heap.size w WZ):=((HXZ.out WE HE.out).2.1).trans (hbz.mono ((HXZ.out WE HE.out).2.1).size);clear hbz;go_wp2;go_ret;exact⟨rfl,HBZ.out⟩
 have f3:decide (13<=s0)=false:=decide_eq_false (by omega);have f4:decide (13<=t0)=false:=decide_eq_false (by omega)
 have hz:cx=0∨cx=8:=by
  have h:=Br.check_same S T (HCC.out.1.trans QA.out) (HCC.out.2.trans QB.out) HBIG.out (by rw[HK.out.1,HK.out.2];omega);rw[HCX.out.1]at h;exact h
 have RE:=(HZ.out WE HE.out).1;clear qk
 rcases hz with rfl|rfl<;>
 ·go_wp2_with (first
   |refine Ak.load_want (by rfl) 44 _ rfl WA.heap.size 0 rfl zs.toList _ RE hu rfl izl ?_
   |refine wpList_load_mid rfl 44 _ rfl WA.heap.size 0 rfl zs.toList _ RE hu rfl izl ?_
   |fail)
  refine Calls.mono (CRK.out WE HE.out) ?_;rintro e1 WF ⟨rfl,bF⟩;have HF2:Hid (Below WB.heap.size WB WF):=HE.out.trans (bF.mono HE.out.size);clear bF RE CRK k0 k1
  go_wp2_with fail
  refine Calls.mono (HS.out WF (HXZ.out WF HF2.out).2.1) ?_;rintro e2 WZ ⟨rfl,hbz⟩;have HBZ:Hid (Below w.heap.size w WZ):=((HXZ.out WF HF2.out).2.1).trans (hbz.mono ((HXZ.out WF HF2.out).2.1).size);clear hbz;go_wp2;go_ret;exact⟨rfl,HBZ.out⟩
end Go.Proofs.YtenaelpdnccgnaaGreatDoor.BpelRow
namespace Go.Proofs.YtenaelpdnccgnaaGreatDoor.BpelRow
open Go.ChangeShapes Go.WideShapes Go.ChangeAt Go.RowKit
theorem own:ownKnob Tryz.prog.godebug=none:=by kernel_rfl
theorem contract (H:Type)(enc:TypeId×Value->H)(W:World)(base:Nat)(args:Array Value)(ds gs:List (DataW H))(before:List MemPlace)(vt:List TypeId)
  (hval:∀(j:Nat) t v,Tryz.f8.params[j]? =some t->args[j]? =some v->Value.okWide Tryz.prog W .any base t v)
  (hW:DataW.Whole enc Tryz.prog Tryz.f8.params.toList Rows.bpelRowSpec.vars false W args.toList ds gs before)
  (hwt:(DataW.weightsEach Tryz.prog (Tryz.f8.params.toList++vt) (ds++gs)).all (· <=reachBytes)=true) (hL:laidMetH Tryz.prog Rows.bpelRowRow.laid W):
  Calls Tryz.prog 8 args W λe W'=>∃v,e=.returned v/\Rows.bpelRowSpec.post enc Tryz.prog Tryz.f8 false true false false W args v W':=by
 have hW':=hW;obtain⟨p,q,hA0,hV,rfl,hfz,hnd⟩:=hW;have hA:DataW.TrodAll enc Tryz.prog W 0 (λ_=>true) true Tryz.f8.params.toList args.toList ds p:=hA0;obtain⟨rfl,rfl⟩:=trodVars_none hV;have hlt:∀x∈p,x.block<W.heap.size:=λx hx=>hW'.lt x (List.mem_append_left _ hx);have hargs:∀W',Below W.heap.size W W'->DataW.TrodAll enc Tryz.prog W' 0 (λb=>decide (b<W.heap.size)) true Tryz.f8.params.toList args.toList ds p:=λW' hb=>Fk.trodAll_below hb (by kernel_rfl) hA0 hlt;rw[Tryz.params8]at hA hval hwt;clear hA0;obtain⟨v0,vs0,d0,ds0,p0,q0,hargs0,rfl,rfl,h0,r0⟩:=trodAll_cons hA;obtain⟨v1,vs1,d1,ds1,p1,q1,rfl,rfl,rfl,h1,r1⟩:=trodAll_cons r0;obtain⟨rfl,rfl,rfl⟩:=trodAll_nil r1;obtain rfl:args=#[v0,v1]:=by cases args;simp_all
 obtain⟨S,U,e,d,rfl,hS⟩:=Ac.open_act (hval 0 32 v0 rfl rfl) h0;obtain⟨T,V,e',d',rfl,hT⟩:=Ac.open_act (hval 1 32 v1 rfl rfl) h1;refine(walk S T U V e d e' d' W hS hT (ops_of_laid hL)).mono λe W' ⟨he,hb⟩=> ?_;subst he;exact⟨_,rfl,_,_,_, [],_, [],hW',trodAll_cons_mk (shut_bool Tryz.underlying4 _) trodAll_mk0,hargs W' hb,rfl,hb.frame _,λh=>by cases h⟩
noncomputable def laidWorld (os:Os):World:= {World.holding Tryz.prog os ⟨#[],#[], []⟩with heap:=(World.holding Tryz.prog os ⟨#[],#[], []⟩).heap.modify 0 fun| .cells _ t frozen=> .cells Tk.opVals t frozen|o=>o}
theorem laid_met (os:Os):laidMet Tryz.prog Rows.bpelRowRow.laid ((laidWorld os).forCall (λ_ _=>0) ⟨#[],#[.agg #[.int .i64 0,.int .i64 0,.int .i64 0,.int .i64 0,.int .i64 0,.int .i64 0,.slice none 0 0,.slice none 0 0,.slice none 0 0,.slice none 0 0,.slice none 0 0,.slice none 0 0],.agg #[.int .i64 0,.int .i64 0,.int .i64 0,.int .i64 0,.int .i64 0,.int .i64 0,.slice none 0 0,.slice none 0 0,.slice none 0 0,.slice none 0 0,.slice none 0 0,.slice none 0 0]], []⟩).memory:=
 laidMet_of_run' 8 (by kernel_rfl) (by kernel_rfl)
theorem reads (os:Os){H:Type}(enc:TypeId×Value->H):∃places,DataW.whole enc Tryz.prog ((laidWorld os).forCall (λ_ _=>0) ⟨#[],#[.agg #[.int .i64 0,.int .i64 0,.int .i64 0,.int .i64 0,.int .i64 0,.int .i64 0,.slice none 0 0,.slice none 0 0,.slice none 0 0,.slice none 0 0,.slice none 0 0,.slice none 0 0],.agg #[.int .i64 0,.int .i64 0,.int .i64 0,.int .i64 0,.int .i64 0,.int .i64 0,.slice none 0 0,.slice none 0 0,.slice none 0 0,.slice none 0 0,.slice none 0 0,.slice none 0 0]], []⟩).memory Tryz.f8.params.toList Rows.bpelRowSpec.vars false (#[.agg #[.int .i64 0,.int .i64 0,.int .i64 0,.int .i64 0,.int .i64 0,.int .i64 0,.slice none 0 0,.slice none 0 0,.slice none 0 0,.slice none 0 0,.slice none 0 0,.slice none 0 0],.agg #[.int .i64 0,.int .i64 0,.int .i64 0,.int .i64 0,.int .i64 0,.int .i64 0,.slice none 0 0,.slice none 0 0,.slice none 0 0,.slice none 0 0,.slice none 0 0,.slice none 0 0]]:Array Value).toList 8=some ([.agg [.lit (.int .i64 0),.lit (.int .i64 0),.lit (.int .i64 0),.lit (.int .i64 0),.agg [.lit (.int .i64 0),.lit (.int .i64 0),.nil],.nil,.nil,.nil,.agg [.nil,.nil]],.agg [.lit (.int .i64 0),.lit (.int .i64 0),.lit (.int .i64 0),.lit (.int .i64 0),.agg [.lit (.int .i64 0),.lit (.int .i64 0),.nil],.nil,.nil,.nil,.agg [.nil,.nil]]], [],places):=
 ⟨[],by kernel_rfl⟩
theorem lifted (os:Os)(started:os.Started)(H:Type)(enc:TypeId×Value->H)(F:Stop.Interp):
  ReturnsInHanded {} Tryz.checked os 8 .any ((OpenSpec.ofChange Rows.bpelRowSpec).preRow enc Tryz.prog Tryz.f8 Rows.bpelRowRow.domain false Rows.bpelRowRow.laid) (((OpenSpec.ofChange Rows.bpelRowSpec).at F).post enc Tryz.prog Tryz.f8 false true false false):=by
 obtain⟨places,hx⟩:=reads os enc
 refine returnsInHanded_of_row (C:=Tryz.checked) (s:=OpenSpec.ofChange Rows.bpelRowSpec) own started (by kernel_rfl) Tryz.func8
  (witness_row_at (enc:=enc) (C:=Tryz.checked) false (laidWorld os) #[.agg #[.int .i64 0,.int .i64 0,.int .i64 0,.int .i64 0,.int .i64 0,.int .i64 0,.slice none 0 0,.slice none 0 0,.slice none 0 0,.slice none 0 0,.slice none 0 0,.slice none 0 0],.agg #[.int .i64 0,.int .i64 0,.int .i64 0,.int .i64 0,.int .i64 0,.int .i64 0,.slice none 0 0,.slice none 0 0,.slice none 0 0,.slice none 0 0,.slice none 0 0,.slice none 0 0]] rfl (by kernel_rfl) (by kernel_rfl) (by kernel_rfl)
   (OpenSpec.preRow_of_cond 8 hx (by kernel_rfl) (λk hk=>by cases hk) (by kernel_rfl) (laid_met os))) ?_
 intro W base args ds gs before hval hW _ _ hwt hL _ _;exact contract H enc W base args ds gs before _ hval hW hwt hL
theorem said:Rows.BpelRowSaid:=
 OpenClaim.holds_of_cond 8 Tryz.f8 rfl rfl rfl rfl rfl rfl rfl ⟨rfl,rfl,rfl,rfl,rfl⟩ rfl rfl rfl rfl rfl (by kernel_rfl) Tryz.func8 (by kernel_rfl)
  (of_decide_eq_true (by kernel_rfl)) (by unfold Func.isWrapper;first|(rw[if_pos (by decide+kernel)];kernel_rfl)|(rw[if_neg (by decide+kernel)];exact⟨rfl,rfl⟩))
  (λos started H enc _ F=>by rw[OpenClaim.pre_eq_preRow];exact lifted os started H enc F)
theorem plain (f:FuncId)(fn:Func)(hf:Tryz.pinned.checked.prog.funcNamed "treenail/treenaillaw16.BpelRow" =some f)(hfn:Tryz.pinned.checked.prog.funcs[f]? =some fn):
  false=Tryz.pinned.checked.prog.looks []/\∀(j:Nat) t,fn.params[j]? =some t->Tryz.pinned.checked.prog.wantsStandIn t=false:=by
 obtain rfl:f=8:=Option.some.inj ((show Tryz.prog.funcNamed "treenail/treenaillaw16.BpelRow" =some 8 by kernel_rfl).symm.trans hf)|>.symm
 obtain rfl:fn=Tryz.f8:=(Option.some.inj (Tryz.func8.symm.trans hfn)).symm;refine⟨by kernel_rfl,λj t ht=> ?_⟩;have hall:(Tryz.f8.params.toList.all λt=>Tryz.prog.wantsStandIn t==false)=true:=by kernel_rfl
 have:=List.all_eq_true.1 hall t (Array.mem_toList_iff.2 (Array.mem_of_getElem? ht));exact(show Tryz.prog.wantsStandIn t=false by simpa using this)
theorem card:Rows.BpelRowCardSaid:=
 Claim7.holds_tied_plain_at .later [] _ _ _ _ said (λ_ h=>by cases h) (by kernel_rfl) (λ_ h=>by cases h) bpelRow_row_tie rfl ⟨rfl,rfl⟩ (by kernel_rfl) rfl plain (by kernel_rfl)
end Go.Proofs.YtenaelpdnccgnaaGreatDoor.BpelRow
namespace Go.Proofs.YtenaelpdnccgnaaGreatDoor
theorem bpelRow_card:Rows.BpelRowCardSaid:=BpelRow.card
end Go.Proofs.YtenaelpdnccgnaaGreatDoor
