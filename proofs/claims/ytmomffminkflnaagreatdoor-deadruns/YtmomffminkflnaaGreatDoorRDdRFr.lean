import Derived.Test.YtmomffminkflnaaGreatDoorRDdR10
set_option maxRecDepth 100000
set_option maxHeartbeats 32000000
namespace Go.Proofs
open Go.RowKit Go.Shelf
theorem Dd.ref_ctx2 {d e:Nat}{T:Ac}{V:Ac.Vs}{w:World}(hT:Ac.Lies w w.heap.size e d V T)(hsz:T.size<=600)(hS:T.All Dd.Small)(W:World)(hb:Below w.heap.size w W):
  Calls Tryz.prog 12 #[.agg (Ac.row T V)] W λe' w'=>∃ys,e'=.returned (.agg ys)/\(Tryz.prog.info? 48).map (·.size)=some ys.size/\ys.size=12/\ys.all (·.oneCell')=true/\
   (∀X,Below w.heap.size w X->(∀k,W.heap.size<=k->k<w'.heap.size->X.heap[k]? =w'.heap[k]?)->w'.heap.size<=X.heap.size->Dd.RCtx X ys (Dd.webB T) T.ls (Dd.kkOf T))/\Below W.heap.size W w':=by
 refine Calls.mono (Ak.refC d w.heap.size e T V W hb.size (hT.keep hb.block) (by omega) (Ac.all_mono (λ_ h=>by have:=h.ll;omega) T hS)) ?_;rintro e' w' ⟨hb',U,d',rfl,hl⟩;refine⟨Ac.row T U,rfl,Ak.rinfo,rfl,hl.ones,λX hX hk hs=> ?_,hb'⟩;have h1:=hb.size;have h2:=hb'.size;have hl':Ac.LiesP X w.heap.size e (λk=>W.heap.size<=k/\k<w'.heap.size) d' U T:=hl.keep (λk hk=>(hX.block k hk).trans ((hb'.block k (by omega)).trans (hb.block k hk)).symm) (λk h=>hk k h.1 h.2) λ_ h=>h;exact Dd.rctx d' e T U X (hl'.lies (by omega) λk hk=>by omega) (by omega) (Ac.all_mono (λ_ h=>Dd.fit_of h) T hS)
structure Dd.LFr (w1 W6:World)(a p q v:Nat)(ys:Array Value)(s t:List Int)(W:World):Prop where
 bel:Below w1.heap.size w1 W
 kept:∀k,a<=k->k<W6.heap.size->W.heap[k]? =W6.heap[k]?
 big:W6.heap.size<=W.heap.size
 yq:W.heap[q]? =some (.cells ys 48 (0,0))
 sp:Dd.At W p s
 sv:Dd.RAt W v t
 lo:w1.heap.size<=p
 pa:p<a
 aw:a<=W6.heap.size
 bq:W6.heap.size<=q
 bv:W6.heap.size<=v
 qv:q≠v
section
variable {w1 W6 W W':World} {a p q v:Nat} {ys:Array Value} {s t r:List Int}
theorem Dd.LFr.step (h:Dd.LFr w1 W6 a p q v ys s t W)(hb:Below W.heap.size W W'):Dd.LFr w1 W6 a p q v ys s t W':=
 ⟨h.bel.trans (hb.mono h.bel.size),λk h1 h2=>(hb.block k (Nat.lt_of_lt_of_le h2 h.big)).trans (h.kept k h1 h2),Nat.le_trans h.big hb.size,(hb.block _ (Array.getElem?_eq_some_iff.1 h.yq).1).trans h.yq,h.sp.below hb h.sp.lt,h.sv.below hb h.sv.lt,h.lo,h.pa,h.aw,h.bq,h.bv,h.qv⟩
theorem Dd.LFr.setP (h:Dd.LFr w1 W6 a p q v ys s t W)(hr:r.length=104):Dd.LFr w1 W6 a p q v ys r t (W.setRow p (Dd.row r)):=by
 have h1:=h.pa;have h2:=h.aw;have h3:=h.bq;have h4:=h.bv;have hz:(W.setRow p (Dd.row r)).heap.size=W.heap.size:=by have:=(Tk.below_row (Below.refl p W) (Nat.le_refl _) (Dd.row r)).size;simp[World.setRow]
 exact⟨Tk.below_row h.bel h.lo _,λk q1 q2=>(setRow_other _ _ _ _ (by omega)).trans (h.kept k q1 q2),by rw[hz];exact h.big,(setRow_other _ _ _ _ (by omega)).trans h.yq,h.sp.setRow hr,h.sv.keep (setRow_other _ _ _ _ (by omega)),h.lo,h.pa,h.aw,h.bq,h.bv,h.qv⟩
theorem Dd.LFr.setV (h:Dd.LFr w1 W6 a p q v ys s t W)(hr:r.length=104):Dd.LFr w1 W6 a p q v ys s r (W.setRow v (Dd.row r)):=by
 have h1:=h.pa;have h2:=h.aw;have h3:=h.bq;have h4:=h.bv;have h5:=h.lo;have h6:=h.qv;have hz:(W.setRow v (Dd.row r)).heap.size=W.heap.size:=by simp[World.setRow]
 exact⟨Tk.below_row h.bel (by omega) _,λk q1 q2=>(setRow_other _ _ _ _ (by omega)).trans (h.kept k q1 q2),by rw[hz];exact h.big,(setRow_other _ _ _ _ (by omega)).trans h.yq,h.sp.keep (setRow_other _ _ _ _ (by omega)),h.sv.setRow hr,h.lo,h.pa,h.aw,h.bq,h.bv,h.qv⟩
theorem Dd.LFr.range (h:Dd.LFr w1 W6 a p q v ys s t W):W.rangeAt q 0 ys.toList/\W.rangeAt p 0 (Dd.ints s)/\W.rangeAt v 0 (Dd.ints t):=by
 refine⟨λj x hx=> ?_,Dd.range_st h.sp,λj x hx=> ?_⟩
 ·rw[Nat.zero_add]
  simp only[World.cell?,h.yq];simpa using hx
 rw[Nat.zero_add];simp only[World.cell?,h.sv.h];simpa [Dd.row]using hx
end
theorem Dd.field_got {t:List Int}(h:t.length=104)(e:Int)(W:World):(Instr.field 59 (.agg (Dd.row (t++ [e]))) 0).run Tryz.prog W=.ok (.agg (Dd.row t)) W:=by
 have hx:(Dd.row (t++ [e])).extract 0 (0+104)=Dd.row t:=by
  refine Array.ext' ?_;simp[Dd.row,Dd.ints,h]
 obtain⟨cs,hcs⟩:=pE (Dd.row (t++ [e]));rw[hcs]at hx⊢;rw[Nat.zero_add]at hx;simp[Instr.field,go_sem,part,asAgg,hx]
end Go.Proofs
namespace Go.Proofs
open Go.RowKit
theorem Dd.run_pre (s:List Int)(n:Nat):∀d i,i+d=n->∃m,Dd.running n s=Dd.running i s++m:=by
 intro d
 induction d with
 |zero=>intro i h;exact⟨[],by rw[<-h];simp⟩
 |succ d ih=>
  intro i h;obtain⟨m,hm⟩:=ih (i+1) (by omega);exact⟨_,by rw[hm,Dd.run_step 0 s i,List.append_assoc]⟩
theorem Dd.run_at {s:List Int}{n i:Nat}(hi:i<n)(h1:s.getD (40+i) 0=1){L:List Nat}(hL:Dd.running n s=L){m1:Nat}(hm1:(Dd.running i s).length=m1):∃h:m1<L.length,L[m1]=i:=by
 obtain⟨m,hm⟩:=Dd.run_pre s n (n-(i+1)) (i+1) (by omega);rw[Dd.run_step 0 s i,if_pos h1,List.append_assoc]at hm;subst hL;subst hm1;have h:(Dd.running i s).length<(Dd.running n s).length:=by rw[hm];simp
 exact⟨h,(List.getElem_of_eq hm h).trans (by simp)⟩
end Go.Proofs
namespace Go.Proofs.YtmomffminkflnaaGreatDoor.DeadRuns
open Go.RowKit
theorem walk (T:Ac)(V:Ac.Vs)(e dd:Nat)(pa:Option Addr)(pc:Nat)(ps:List Int)(w:World)(hT:Ac.Lies w w.heap.size e dd V T)(hP:Dd.Nums w w.heap.size pa ps)(hO:Tk.Ops w):
  Calls Tryz.prog 6 #[.agg (Ac.row T V),.slice pa ps.length pc] w λe w'=>e=.returned (.bool true)/\Below w.heap.size w w':=by
 have h0:0<w.heap.size:=by have:=hO.lt;omega
 obtain⟨ka,kc,hvk,hKd⟩:=Dd.kds_of hT;obtain⟨la,lc,hvl,hLk⟩:=hT.own.l;obtain⟨n,hn⟩:=pE (T.ks.length);obtain⟨m,hm⟩:=pE (T.ls.length);obtain⟨pn,hpn⟩:=pE (ps.length);obtain⟨xs,hxs⟩:=pE (Ac.row T V);have hsz:xs.size=12:=by rw[<-hxs];rfl
 have x8:xs[8]? =some (.slice ka n kc):=by rw[<-hxs,<-hn,<-hvk];rfl
 have x9:xs[9]? =some (.slice la m lc):=by rw[<-hxs,<-hm,<-hvl];rfl
 obtain⟨w1,hw1⟩:=pE (w.alloc (.cells xs 32));have B1:=pB hw1
 have N1:w1.heap[w.heap.size]? =some (.cells xs 32 (0,0)):=by rw[<-hw1];exact heap_alloc_new w _
 have hlt1:=(Array.getElem?_eq_some_iff.1 N1).1;obtain⟨w2,hw2⟩:=pE (w1.alloc (.cells #[.int .i64 600] 36));have B2:=pB hw2
 have R2:Tk.Rm w1.heap.size ((600:Nat):Int) w2:=by rw[<-hw2];exact heap_alloc_new w1 _
 have B02:Below w.heap.size w w2:=B1.trans (B2.mono B1.size);have CL0:=Tryz.alarge_any e dd T V 600 w1.heap.size 1 w.heap.size w2 (hT.keep B02.block) (by omega) B02.size R2 (by omega) (by omega);rw[hxs]at CL0;have CL:Hid _:=CL0
 have HX:Hid (∀W,Below w1.heap.size w1 W->W.heap[w.heap.size]? =some (.cells xs 32 (0,0))/\Below w.heap.size w W/\W.rangeAt w.heap.size 0 xs.toList/\W.cell? ⟨w.heap.size,8,none⟩=some (.slice ka n kc)/\W.cell? ⟨w.heap.size,9,none⟩=some (.slice la m lc)):=λW hb=>by
  have h:=(hb.block _ hlt1).trans N1;refine⟨h,B1.trans (hb.mono B1.size),λj v hv=> ?_, ?_, ?_⟩
  ·rw[Nat.zero_add]
   simp only[World.cell?,h];simpa using hv
  ·simp[World.cell?,h,x8]
  simp[World.cell?,h,x9]
 have H1:Hid (w.alloc (.cells xs 32)=w1):=hw1;have H2:Hid (w1.alloc (.cells #[.int .i64 600] 36)=w2):=hw2;have HS:Hid (∀W,Below w.heap.size w W->Calls Tryz.prog 10 #[] W λe w'=>e=.returned (.bool true)/\Below W.heap.size W w'):=λW hb=>Tryz.skips_any W (hO.below hb hO.lt);have HT:Hid (Ac.Lies w w.heap.size e dd V T/\Tk.Ops w/\Ac.row T V=xs/\T.ks.length=n/\T.ls.length=m/\Dd.Kds w w.heap.size ka (Dd.kkOf T)/\0<w.heap.size/\V.k=.slice ka n kc):=⟨hT,hO,hxs,hn,hm,hKd,h0,by rw[<-hn];exact hvk⟩;have HPI:Hid (Dd.Nums w w.heap.size pa ps/\ps.length=pn):=⟨hP,hpn⟩;have HBB:Hid (Below w1.heap.size w1 w2/\w.heap.size<w1.heap.size):=⟨B2,hlt1⟩;have ha:=Tryz.underlying32;have hu:=Tryz.underlying41;have ia:(Tryz.prog.info? 32).map (·.size)=some xs.size:=by rw[hsz];exact Dd.info_act
 have ial:(Tryz.prog.info? 32).map (·.size)=some xs.toList.length:=by rw[ia];simp
 rw[hpn];rw[hxs];clear hT hP hO hKd hLk hvk hvl hn hm hpn hxs hsz x8 x9 hw1 hw2 B1 B2 R2 B02 CL0 hlt1 h0
 go_enter Tryz.func6,Tryz.ntmps6
 go_upto_region 1 with fail
 rw[H1.out]
 go_wp2_with (refine wpList_load_row rfl 32 _ rfl _ rfl 32 _ (0,0) _ N1 ha rfl ia ?_)
 rw[H2.out];refine Calls.mono CL.out ?_;rintro e' W3 ⟨hb3,⟨rfl,hsm,k3,hk3,-⟩|rfl⟩
 rotate_left
 ·have HB3:Hid (Below w.heap.size w W3):=(HX.out W3 (HBB.out.1.trans (hb3.below HBB.out.1.size (by intro i hi;show¬i=w1.heap.size;omega)))).2.1
  clear hb3 CL N1
  go_wp2_with fail
  refine Calls.mono (HS.out W3 HB3.out) ?_;rintro e' W4 ⟨rfl,hb4⟩;have HB4:Hid (Below w.heap.size w W4):=HB3.out.trans (hb4.mono HB3.out.size);clear hb4;go_wp2;go_ret;exact⟨rfl,HB4.out⟩
 have HB3:Hid (Below w1.heap.size w1 W3):=HBB.out.1.trans (hb3.below HBB.out.1.size (by intro i hi;show¬i=w1.heap.size;omega));have HSM:Hid (T.All Dd.Small/\T.size<=600):=⟨hsm,by omega⟩;clear hb3 CL N1 hsm hk3
 by_cases hp60:60<pn
 ·have dp:decide ((60:Int)<pn)=true:=decide_eq_true (by omega)
  have dp':decide (60<pn)=true:=decide_eq_true hp60
  go_wp2_with fail
  refine Calls.mono (HS.out W3 (HX.out W3 HB3.out).2.1) ?_;rintro e' W4 ⟨rfl,hb4⟩;have HB4:Hid (Below w.heap.size w W4):=(HX.out W3 HB3.out).2.1.trans (hb4.mono (HX.out W3 HB3.out).2.1.size);clear hb4;go_wp2;go_ret;exact⟨rfl,HB4.out⟩
 have dp:decide ((60:Int)<pn)=false:=decide_eq_false (by omega);have dp':decide (60<pn)=false:=decide_eq_false hp60
 have CX:Hid (Dd.Ctx w xs (Dd.webB T) T.ls (Dd.kkOf T)):=by
  have h:=Dd.ctx dd e T V w HT.out.1 HT.out.2.2.2.2.2.2.1 (by have:=HSM.out.2;omega) (Ac.all_mono (λ_ h=>Dd.fit_of h) T HSM.out.1) HT.out.2.1;rw[HT.out.2.2.1]at h;exact h
 obtain⟨wb,hwb⟩:=pE (Dd.webB T);rw[hwb]at CX;obtain⟨nx3,-,-,-,-⟩:=HX.out W3 HB3.out;have C1:Hid (Calls Tryz.prog 11 #[.agg xs] W3 λe w'=>e=.returned (.tuple #[.agg (Dd.row (Dd.startR wb T.ls (Dd.kkOf T)).1),.int .i64 (Dd.startR wb T.ls (Dd.kkOf T)).2])/\Below W3.heap.size W3 w'):=CX.out.start W3 (HX.out W3 HB3.out).2.1;obtain⟨s0,hs0⟩:=pE ((Dd.startR wb T.ls (Dd.kkOf T)).1);obtain⟨e0,he0⟩:=pE ((Dd.startR wb T.ls (Dd.kkOf T)).2);rw[hs0,he0]at C1;have HW:Hid (Dd.webB T=wb/\(Dd.startR wb T.ls (Dd.kkOf T)).1=s0/\(Dd.startR wb T.ls (Dd.kkOf T)).2=e0):=⟨hwb,hs0,he0⟩
 have hs0l:s0.length=104:=by
  rw[<-hs0]
  cases hq:wb with
  |false=>exact Dd.zeros_length
  |true=>
   rw[hq]at hwb;exact(Dd.start_inv (Dd.rw_of hwb).right.web).1.len
 have HS0:Hid (s0.length=104):=hs0l;have i0:=Dd.info_row hs0l;have o0:=Dd.row_one s0;have z0:(Tryz.zeroCells41).size=(Dd.row s0).size:=by rw[Dd.zero_row,Dd.row_size,Dd.row_size,hs0l,Dd.zeros_length]
 clear hwb hs0 he0 hs0l hp60
 go_upto_region 3 with fail
 go_wp2_with (refine wpList_load_row rfl 32 _ rfl _ rfl 32 _ (0,0) _ nx3 ha rfl ia ?_)
 refine Calls.mono C1.out ?_;rintro e' W4 ⟨rfl,hb4⟩;have NZ4:(W4.alloc (.cells Tryz.zeroCells41 41)).heap[W4.heap.size]? =some (.cells Tryz.zeroCells41 41 (0,0)):=heap_alloc_new W4 _;obtain⟨W5,hW5⟩:=pE ((W4.alloc (.cells Tryz.zeroCells41 41)).setRow W4.heap.size (Dd.row s0));have A5:Dd.At W5 W4.heap.size s0:=by rw[<-hW5];exact⟨setRow_heap _ _ _ _ _ _ NZ4,HS0.out⟩
 have B5:Below W4.heap.size W4 W5:=by rw[<-hW5];exact Tk.below_row ((Below.refl _ W4).alloc (Nat.le_refl _) _) (Nat.le_refl _) _
 have hb14:Below w1.heap.size w1 W4:=HB3.out.trans (hb4.mono HB3.out.size);obtain⟨p,hp⟩:=pE (W4.heap.size);have HP:Hid (W4.heap.size=p):=hp;have HB5:Hid (Below w1.heap.size w1 W5/\Dd.At W5 p s0/\w1.heap.size<=p):=⟨hb14.trans (B5.mono hb14.size),by rw[<-hp];exact A5,by have:=hb14.size;omega⟩;have HW5:Hid _:=hW5;clear hb4 hb14 hW5 A5 B5 hp C1 nx3
 go_upto_region 4 with(refine wpList_store_row rfl 41 _ _ rfl W4.heap.size (Dd.row s0) rfl rfl 41 _ NZ4 i0 z0 o0 ?_)
 rw[HW5.out,HP.out];clear HW5 NZ4 HP i0 o0 z0;have NX5:=(HX.out W5 HB5.out.1).1
 have RFC:Hid (Calls Tryz.prog 12 #[.agg xs] W5 λe' w'=>∃ys,e'=.returned (.agg ys)/\(Tryz.prog.info? 48).map (·.size)=some ys.size/\ys.size=12/\ys.all (·.oneCell')=true/\
   (∀X,Below w.heap.size w X->(∀k,W5.heap.size<=k->k<w'.heap.size->X.heap[k]? =w'.heap[k]?)->w'.heap.size<=X.heap.size->Dd.RCtx X ys wb T.ls (Dd.kkOf T))/\Below W5.heap.size W5 w'):=by
  have h:=Dd.ref_ctx2 HT.out.1 HSM.out.2 HSM.out.1 W5 (HX.out W5 HB5.out.1).2.1;rw[HT.out.2.2.1,HW.out.1]at h;exact h
 go_wp2_with (refine wpList_load_row rfl 32 _ rfl _ rfl 32 _ (0,0) _ NX5 ha rfl ia ?_)
 refine Calls.mono RFC.out ?_;rintro e' W6 ⟨ys,rfl,yi,y12,y1,yc,hb6⟩;have NZ6:(W6.alloc (.cells #[.int .i64 0,.int .i64 0,.int .i64 0,.int .i64 0,.int .i64 0,.int .i64 0,.slice none 0 0,.slice none 0 0,.slice none 0 0,.slice none 0 0,.slice none 0 0,.slice none 0 0] 48)).heap[W6.heap.size]? =some (.cells #[.int .i64 0,.int .i64 0,.int .i64 0,.int .i64 0,.int .i64 0,.int .i64 0,.slice none 0 0,.slice none 0 0,.slice none 0 0,.slice none 0 0,.slice none 0 0,.slice none 0 0] 48 (0,0)):=heap_alloc_new W6 _;obtain⟨W7,hW7⟩:=pE ((W6.alloc (.cells #[.int .i64 0,.int .i64 0,.int .i64 0,.int .i64 0,.int .i64 0,.int .i64 0,.slice none 0 0,.slice none 0 0,.slice none 0 0,.slice none 0 0,.slice none 0 0,.slice none 0 0] 48)).setRow W6.heap.size ys);have A7:W7.heap[W6.heap.size]? =some (.cells ys 48 (0,0)):=by rw[<-hW7];exact setRow_heap _ _ _ _ _ _ NZ6
 have B7:Below W6.heap.size W6 W7:=by rw[<-hW7];exact Tk.below_row ((Below.refl _ W6).alloc (Nat.le_refl _) _) (Nat.le_refl _) _
 have B57:Below W5.heap.size W5 W7:=hb6.trans (B7.mono hb6.size);obtain⟨q,hq⟩:=pE (W6.heap.size);have HQ:Hid (W6.heap.size=q):=hq
 have HF7:Hid (Below w1.heap.size w1 W7/\Below W6.heap.size W6 W7/\W7.heap[q]? =some (.cells ys 48 (0,0))/\Dd.At W7 p s0/\W5.heap.size<=W6.heap.size/\W6.heap.size=q/\p<W5.heap.size/\w1.heap.size<=p):=
  ⟨HB5.out.1.trans (B57.mono HB5.out.1.size),B7,by rw[<-hq];exact A7,HB5.out.2.1.below B57 HB5.out.2.1.lt,hb6.size,hq,HB5.out.2.1.lt,HB5.out.2.2⟩
 have HYC:Hid _:=yc;have HW7:Hid _:=hW7;have zy:(#[.int .i64 0,.int .i64 0,.int .i64 0,.int .i64 0,.int .i64 0,.int .i64 0,.slice none 0 0,.slice none 0 0,.slice none 0 0,.slice none 0 0,.slice none 0 0,.slice none 0 0]:Array Value).size=ys.size:=by rw[y12];rfl
 have hr:=Tryz.underlying48;have hus:=Tryz.underlying53;have yil:(Tryz.prog.info? 48).map (·.size)=some ys.toList.length:=by rw[yi];simp
 clear hb6 hW7 A7 B7 B57 hq NX5 RFC yc
 go_upto_region 5 with(refine wpList_store_row rfl 48 _ _ rfl W6.heap.size ys rfl rfl 48 _ NZ6 yi zy y1 ?_)
 rw[HW7.out,HQ.out];clear HW7 NZ6 HQ zy y12 y1
 cases wb with
 |false=>
  obtain rfl:e0=4:=HW.out.2.2.symm
  go_wp2_with fail
  refine Calls.mono (HS.out W7 (HX.out W7 HF7.out.1).2.1) ?_;rintro e' W8 ⟨rfl,hb8⟩;have HB8:Hid (Below w.heap.size w W8):=(HX.out W7 HF7.out.1).2.1.trans (hb8.mono (HX.out W7 HF7.out.1).2.1.size);clear hb8;go_wp2;go_ret;exact⟨rfl,HB8.out⟩
 |true=>
 obtain rfl:e0=0:=HW.out.2.2.symm;have HRW:Hid (Dd.Rw T):=Dd.rw_of HW.out.1;have HKL:Hid ((Dd.kkOf T).length=n):=by rw[Dd.kkOf_length];exact HT.out.2.2.2.1
 have pn60:pn<=60:=Nat.le_of_not_lt (of_decide_eq_false dp');have n64:n<=64:=by have:=HRW.out.right.web.k64;have:=HKL.out;omega
 have HI0:Hid (Dd.Inv T.ls (Dd.kkOf T) s0/\Dd.Calm T.ls (Dd.kkOf T) s0/\Dd.start T.ls (Dd.kkOf T)=s0):=by
  have h:=Dd.start_inv HRW.out.right.web;have hs:Dd.start T.ls (Dd.kkOf T)=s0:=HW.out.2.1;rw[hs]at h;exact⟨h.1,h.2,hs⟩
 have HRC:Hid (∀W s t v,Dd.LFr w1 W6 W5.heap.size p q v ys s t W->Dd.RCtx W ys true T.ls (Dd.kkOf T)):=λW s t v h=>HYC.out W (HX.out W h.bel).2.1 h.kept h.big;have RC7:Hid (Dd.RCtx W7 ys true T.ls (Dd.kkOf T)):=HYC.out W7 (HX.out W7 HF7.out.1).2.1 (λk _ h=>HF7.out.2.1.block k h) HF7.out.2.1.size
 have RQ7:W7.rangeAt q 0 ys.toList:=λj v hv=>by
  rw[Nat.zero_add];simp only[World.cell?,HF7.out.2.2.1];simpa using hv
 clear HYC
 go_wp2_with (first
  |refine Dd.load_want (by rfl) 48 _ rfl q 0 rfl ys.toList _ RQ7 hr rfl yil ?_
  |fail)
 refine Calls.mono (RC7.out.right W7 (Below.refl _ W7)) ?_;rintro e' W8 ⟨rfl,hb8⟩;have NY8:=(hb8.block _ (Array.getElem?_eq_some_iff.1 HF7.out.2.2.1).1).trans HF7.out.2.2.1;have HB8:Hid (Below W7.heap.size W7 W8):=hb8
 have CS:Hid (Calls Tryz.prog 16 #[.agg ys] W8 λe w'=>e=.returned (.agg (Dd.row s0))/\Below W8.heap.size W8 w'):=by
  have h:=RC7.out.start rfl W8 hb8;rw[HI0.out.2.2]at h;exact h
 clear hb8 RQ7
 go_upto_region 7 with fail
 go_wp2_with (refine wpList_load_row rfl 48 _ rfl _ rfl 48 _ (0,0) _ NY8 hr rfl yi ?_)
 refine Calls.mono CS.out ?_;rintro e' W9 ⟨rfl,hb9⟩;have NZ9:(W9.alloc (.cells Tryz.zeroCells53 53)).heap[W9.heap.size]? =some (.cells Tryz.zeroCells53 53 (0,0)):=heap_alloc_new W9 _;obtain⟨W10,hW10⟩:=pE ((W9.alloc (.cells Tryz.zeroCells53 53)).setRow W9.heap.size (Dd.row s0));have A10:Dd.RAt W10 W9.heap.size s0:=by rw[<-hW10];exact⟨setRow_heap _ _ _ _ _ _ NZ9,HS0.out⟩
 have B10:Below W9.heap.size W9 W10:=by rw[<-hW10];exact Tk.below_row ((Below.refl _ W9).alloc (Nat.le_refl _) _) (Nat.le_refl _) _
 have B79:Below W7.heap.size W7 W9:=HB8.out.trans (hb9.mono HB8.out.size);have B710:Below W7.heap.size W7 W10:=B79.trans (B10.mono B79.size);obtain⟨v,hv⟩:=pE (W9.heap.size);have HV:Hid (W9.heap.size=v):=hv
 have HL10:Hid (Dd.LFr w1 W6 W5.heap.size p q v ys s0 s0 W10):=by
  have h1:=HF7.out;have h2:=B79.size;have h3:=h1.2.1.size;have h4:=(Array.getElem?_eq_some_iff.1 h1.2.2.1).1;have h5:=h1.2.2.2.2.2.1;refine⟨h1.1.trans (B710.mono h1.1.size),λk _ hk=>(B710.block k (by omega)).trans (h1.2.1.block k hk),Nat.le_trans h3 B710.size,(B710.block _ h4).trans h1.2.2.1,h1.2.2.2.1.below B710 h1.2.2.2.1.lt,by rw[<-hv];exact A10,h1.2.2.2.2.2.2.2,h1.2.2.2.2.2.2.1,h1.2.2.2.2.1,by omega,by omega,by omega⟩
 have HW10:Hid _:=hW10;have ir0:=Dd.rinfo_row HS0.out;have or0:=Dd.row_one s0;have zr0:(Tryz.zeroCells53).size=(Dd.row s0).size:=by rw[Dd.rzero_row,Dd.row_size,Dd.row_size,HS0.out,Dd.zeros_length]
 clear hb9 hW10 A10 B10 B79 B710 hv NY8 CS RC7 HB8
 go_upto_region 8 with(refine wpList_store_row rfl 53 _ _ rfl W9.heap.size (Dd.row s0) rfl rfl 53 _ NZ9 ir0 zr0 or0 ?_)
 rw[HW10.out,HV.out];clear HW10 NZ9 HV ir0 or0 zr0 HF7 HB5 HB3;have CSL:Hid (∀W l,l.length=104->Calls Tryz.prog 15 #[.agg (Dd.row l)] W λe w'=>e=.returned (.agg (Dd.row l))/\Below W.heap.size W w'):=λW l h=>Tryz.lawState_any l W h
 go_wp2_with fail
 go_loopg [45] pn (λgk s45 wr=>∃(j:Nat) (s:List Int),gk+j=pn/\s45=.int .i64 j/\Hid (Dd.Inv T.ls (Dd.kkOf T) s/\Dd.Calm T.ls (Dd.kkOf T) s/\Dd.LFr w1 W6 W5.heap.size p q v ys s s wr))
 case atStart=>exact⟨0,s0,by omega,rfl,HI0.out.1,HI0.out.2.1,HL10.out⟩
 case round=>
  obtain⟨j,s,hj,rfl,HJ⟩:=hrel;obtain⟨g1,hg1⟩:=pE (gk);obtain⟨WB,hWB⟩:=pE (wr);rw[hg1]at hj;rw[hWB]at HJ;rw[hWB]
  by_cases hlt:j<pn
  rotate_left
  ·have hd:decide ((j:Int)<pn)=false:=decide_eq_false (by omega)
   have hd':decide (j<pn)=false:=decide_eq_false hlt;have HB8:Hid (Below w.heap.size w WB):=(HX.out WB HJ.out.2.2.bel).2.1
   go_wp2_with fail
   refine Calls.mono (HS.out _ HB8.out) ?_;rintro e' W9' ⟨rfl,hb9⟩;have HB9:Hid (Below w.heap.size w W9'):=HB8.out.trans (hb9.mono HB8.out.size);clear hb9;go_wp2;go_ret;exact⟨rfl,HB9.out⟩
  have hd:decide ((j:Int)<pn)=true:=decide_eq_true (by omega);have hd':decide (j<pn)=true:=decide_eq_true hlt;have hql:j<ps.length:=by rw[HPI.out.2];exact hlt
  obtain⟨g,off,rfl,hg,z0⟩:=HPI.out.1 j hql;obtain⟨x,hx⟩:=pE (ps[j]);rw[hx]at z0;obtain⟨nxB,hbwB,-,-,-⟩:=HX.out WB HJ.out.2.2.bel;have z1:WB.cell? ⟨g,off+j,none⟩=some (.int .i64 x):=by rw[hbwB.cell (p:=⟨g,off+j,none⟩) hg];exact z0
  have q0:(0:Int)<=j:=by omega
  have q1:(j:Int)<pn:=by omega
  have NSB:=HJ.out.2.2.sp.h;have isB:=Dd.info_row HJ.out.1.len;obtain⟨L,hL⟩:=pE (Dd.running n s);obtain⟨r,hr1⟩:=pE (L.length)
  have CR:Hid (Calls Tryz.prog 14 #[.agg xs,.agg (Dd.row s)] WB λe w'=>Nt.Gives L WB e w'):=by
   have h:=CX.out.running WB s hbwB HJ.out.1.len;rw[Dd.run_run HRW.out.right.web HJ.out.1,HKL.out,hL]at h;exact h
  have HLR:Hid (Dd.running n s=L/\L.length=r):=⟨hL,hr1⟩;have HJL:Hid (g1+j=pn):=hj;have j30:j<=60:=by omega
  clear hL hr1 hbwB hj hx z0 hg hql
  go_wp2_with (first
   |refine wpList_load_row rfl 32 _ rfl _ rfl 32 _ (0,0) _ nxB ha rfl ia ?_
   |refine wpList_load_row rfl 41 _ rfl _ rfl 41 (Dd.row s) (0,0) _ NSB hu rfl isB ?_)
  refine Calls.mono CR.out ?_;rintro e' WC ⟨vC,rfl,howC,hbC⟩;rw[HLR.out.2]at howC;obtain⟨ra,rc,rfl⟩:=Rk.own_shape howC;have HLC:Hid (Dd.LFr w1 W6 W5.heap.size p q v ys s s WC):=HJ.out.2.2.step hbC;have HOW:Hid (WC.ownsRow WB.heap.size 3 1 (.slice ra r rc) L.length (Rk.nums L)):=by show World.ownsRow _ _ _ _ _ _ _;rw[HLR.out.2];exact howC
  obtain⟨-,-,-,c8,-⟩:=HX.out WC HLC.out.bel
  have HAT:Hid (∀m,m<r->∃g off,ra=some ⟨g,off,none⟩/\g<WC.heap.size/\WC.cell? ⟨g,off+m,none⟩=some (.int .i64 (L.getD m 0))):=λm hm=>by
   have hm':m<L.length:=by rw[HLR.out.2];exact hm
   obtain⟨g,off,h1,h2,h3⟩:=Dd.own_at HOW.out m hm';exact⟨g,off,h1,h2,by rw[h3,List.getD_eq_getElem?_getD,List.getElem?_eq_getElem hm'];rfl⟩
  clear nxB NSB isB CR howC hbC z1 q0 q1 HOW
  go_wp2_with fail
  go_loopg [55,12] n (λgk s55 s12 wr=>∃i m1:Nat,gk+i=n/\s55=.int .i64 i/\s12=.int .i64 m1/\Hid ((Dd.running i s).length=m1/\m1<=i)/\WC=wr)
  case atStart=>exact⟨0,0,by omega,rfl,rfl,⟨rfl,Nat.le_refl _⟩,rfl⟩
  case round=>
   obtain⟨i,m1,hi,rfl,rfl,HM,hw⟩:=hrel;obtain rfl:=hw
   by_cases hin:i<n
   ·have hd2:decide ((i:Int)<n)=true:=decide_eq_true (by omega)
    have hd2':decide (i<n)=true:=decide_eq_true hin;obtain⟨y,hy⟩:=pE (s.getD (40+i) 0);have k1:=HLC.out.sv.cell (40+i) (by omega);rw[hy]at k1;have j0:(0:Int)<=i:=by omega
    have j1:(i:Int)<64:=by omega
    have m64:m1<=64:=by have:=HM.out.2;omega
    by_cases hy1:y=1
    ·have d1:(y==1)=true:=by simp[hy1]
     obtain⟨hm,hLi⟩:=Dd.run_at hin (hy.trans hy1) HLR.out.1 HM.out.1;have hmr:m1<r:=by rw[<-HLR.out.2];exact hm
     obtain⟨g7,off7,rfl,hg7,z7⟩:=HAT.out m1 hmr;rw[List.getD_eq_getElem?_getD,List.getElem?_eq_getElem hm,Option.getD_some,hLi]at z7
     have HMM:Hid ((Dd.running (i+1) s).length=m1+1/\m1+1<=i+1):=by
      refine⟨?_,by have:=HM.out.2;omega⟩;rw[Dd.run_step 0 s i,if_pos (hy.trans hy1),List.length_append,HM.out.1];rfl
     have m0:(0:Int)<=m1:=by omega
     have m2:(m1:Int)<r:=by omega
     have dg:decide ((r:Int)<=m1)=false:=decide_eq_false (by omega);have dg':decide (r<=m1)=false:=decide_eq_false (by omega);clear hy hy1 hm hLi hg7;go_wp2;go_roundg (gk-1)
     case measure=>omega
     case rel=>exact⟨i+1,m1+1,by omega,by go_num,by go_num,HMM.out,rfl⟩
    have d1:(y==1)=false:=by simpa using hy1
    have HMM:Hid ((Dd.running (i+1) s).length=m1/\m1<=i+1):=by
     refine⟨?_,by have:=HM.out.2;omega⟩;rw[Dd.run_step 0 s i,if_neg (by rw[hy];exact hy1),List.append_nil,HM.out.1]
    clear hy hy1;go_wp2;go_roundg (gk-1)
    case measure=>omega
    case rel=>exact⟨i+1,m1,by omega,by go_num,rfl,HMM.out,rfl⟩
   have hd2:decide ((i:Int)<n)=false:=decide_eq_false (by omega);have hd2':decide (i<n)=false:=decide_eq_false hin;obtain rfl:i=n:=by omega
   obtain rfl:m1=r:=by rw[<-HM.out.1,HLR.out.1,HLR.out.2]
   obtain⟨ob,hob⟩:=pE (Dd.overB true (Dd.kkOf T).length T.ls s)
   have CO1:Hid (∀W,Below WC.heap.size WC W->Calls Tryz.prog 21 #[.agg xs,.agg (Dd.row s)] W λe w'=>e=.returned (.bool ob)/\Below W.heap.size W w'):=λW hb=>by
    have h:=CX.out.over W s (HX.out W (HLC.out.step hb).bel).2.1 HJ.out.1.len;rw[hob]at h;exact h
   have CO2:Hid (∀W,Below WC.heap.size WC W->Calls Tryz.prog 22 #[.agg ys,.agg (Dd.row s)] W λe w'=>e=.returned (.bool ob)/\Below W.heap.size W w'):=λW hb=>by
    have h:=(HRC.out WC s s v HLC.out).over W s hb HJ.out.1.len;rw[hob]at h;exact h
   have CSS:Hid (∀W,Calls Tryz.prog 15 #[.agg (Dd.row s)] W λe w'=>e=.returned (.agg (Dd.row s))/\Below W.heap.size W w'):=λW=>CSL.out W s HJ.out.1.len
   have HSS:Hid (∀W,Below WC.heap.size WC W->(W.rangeAt w.heap.size 0 xs.toList/\W.rangeAt q 0 ys.toList/\W.rangeAt p 0 (Dd.ints s)/\W.rangeAt v 0 (Dd.ints s))):=λW hb=>by
    have h:=HLC.out.step hb;exact⟨(HX.out W h.bel).2.2.1,h.range⟩
   have HD0:Hid (Below WC.heap.size WC WC.drew):=(Below.refl _ WC).drew;have jl:=Dd.ints_len HJ.out.1.len;have jr:=Dd.rints_len HJ.out.1.len
   have HQE:Hid (∀W:World,(Op.equalIn 10000 53 (.agg (Dd.row s)) (.agg (Dd.row s))).run Tryz.prog W=.ok true W):=λW=>by
    rw[Dd.rst_eq s s HJ.out.1.len HJ.out.1.len W,decide_eq_true rfl]
   clear hob hin hi
   go_upto_region 21 with fail
   go_cut [45,96]from 45 to 156 (λs45 s96 wx=>s45=.int .i64 j/\s96=.bool false/\Hid (Below WC.heap.size WC wx))
   case first=>
    have hqe:=HQE.out;clear HX HS HT HPI HBB HSM CX HW HS0 HRW HKL HI0 HRC HL10 CSL HJ HLR HJL HLC HAT HM c8;refine wp_region_held_drew (S:=(λV=>V.rangeAt w.heap.size 0 xs.toList/\V.rangeAt q 0 ys.toList/\V.rangeAt p 0 (Dd.ints s)/\V.rangeAt v 0 (Dd.ints s))) (by kernel_rfl) ?_ (λhHeld=> ?_)
    ·exact HSS.out _ HD0.out
    refine Nt.takeS (v:= ?va0) 0 78 rfl rfl (by kernel_rfl) (by kernel_rfl) (by kernel_rfl) (λ_ _ _ h=>h) (Or.inl ⟨by rfl, ?ya0⟩) hHeld ?ra0
    case ya0=>(intro w hSw;(try dsimp only at hSw);go_simp;all_goals (with_reducible rfl))
    simp only[List.set_cons_succ,List.set_cons_zero];refine Nt.takeS (v:= ?va1) 1 79 rfl rfl (by kernel_rfl) (by kernel_rfl) (by kernel_rfl) (λ_ _ _ h=>h) (Or.inl ⟨by rfl, ?ya1⟩) hHeld ?ra1
    case ya1=>(intro w hSw;(try dsimp only at hSw);go_simp;all_goals (with_reducible rfl))
    simp only[List.set_cons_succ,List.set_cons_zero];refine Nt.takeS (v:= ?va2) 2 80 rfl rfl (by kernel_rfl) (by kernel_rfl) (by kernel_rfl) (λ_ _ _ h=>h) (Or.inl ⟨by rfl, ?ya2⟩) hHeld ?ra2
    case ya2=>(intro w hSw;(try dsimp only at hSw);go_simp;all_goals (with_reducible rfl))
    simp only[List.set_cons_succ,List.set_cons_zero];refine Nt.takeS (v:= ?va3) 3 81 rfl rfl (by kernel_rfl) (by kernel_rfl) (by kernel_rfl) (λ_ _ _ h=>h) (Or.inl ⟨by rfl, ?ya3⟩) hHeld ?ra3
    case ya3=>(intro w hSw;(try dsimp only at hSw);go_simp;all_goals (with_reducible rfl))
    simp only[List.set_cons_succ,List.set_cons_zero];refine Nt.takeS (v:= ?va4) 4 82 rfl rfl (by kernel_rfl) (by kernel_rfl) (by kernel_rfl) (λ_ _ _ h=>h) (Or.inl ⟨by rfl, ?ya4⟩) hHeld ?ra4
    case ya4=>(intro w hSw;(try dsimp only at hSw);go_simp;all_goals (with_reducible rfl))
    simp only[List.set_cons_succ,List.set_cons_zero];refine Nt.takeS (v:=.agg (Dd.row s)) 5 83 rfl rfl (by kernel_rfl) (by kernel_rfl) (by kernel_rfl) (λ_ _ _ h=>h) (yieldsIf_load_mid (by rfl) 41 _ rfl p 0 rfl (Dd.ints s) _ (λ_ hw=>hw.2.2.1) hu rfl jl) hHeld ?_;simp only[List.set_cons_succ,List.set_cons_zero];refine Nt.takeS (v:=.agg (Dd.row s)) 7 85 rfl rfl (by kernel_rfl) (by kernel_rfl) (by kernel_rfl) (λ_ _ _ h=>h) (yieldsIf_load_mid (by rfl) 53 _ rfl v 0 rfl (Dd.ints s) _ (λ_ hw=>hw.2.2.2) hus rfl jr) hHeld ?_;simp only[List.set_cons_succ,List.set_cons_zero];refine wpAnyH_ready (rs:= [6]) (by kernel_rfl) (by simp) ?_;refine AllReadyH.cons rfl (λK hK=> ?_) AllReadyH.nil;go_simp
    go_at_call 15
    refine Calls.mono (CSS.out _) ?_;rintro e' W106 ⟨rfl,hb6⟩;have HB6:Hid (Below WC.heap.size WC W106):=HD0.out.trans (hb6.mono HD0.out.size);clear hb6
    go_wp2_with fail
    refine hK.out _ _ ?_ (λhT6=> ?_)
    ·exact HSS.out _ HB6.out
    clear hK K
    first|refine Nt.normS 84 rfl ?_|skip
    first|(simp only[List.set_cons_succ,List.set_cons_zero])|skip
    refine Nt.takeS (v:= ?vb8) 8 86 rfl rfl (by kernel_rfl) (by kernel_rfl) (by kernel_rfl) (λ_ _ _ h=>h) (Or.inl ⟨by rfl, ?yb8⟩) hT6 ?rb8
    case yb8=>(intro w hSw;(try dsimp only at hSw);go_simp;all_goals (with_reducible rfl))
    simp only[List.set_cons_succ,List.set_cons_zero];refine Nt.takeS (v:= ?vb9) 9 87 rfl rfl (by kernel_rfl) (by kernel_rfl) (by kernel_rfl) (λ_ _ _ h=>h) (Or.inl ⟨by rfl, ?yb9⟩) hT6 ?rb9
    case yb9=>(intro w hSw;(try dsimp only at hSw);go_simp;all_goals (with_reducible rfl))
    simp only[List.set_cons_succ,List.set_cons_zero];refine Nt.takeS (v:= ?vb10) 10 88 rfl rfl (by kernel_rfl) (by kernel_rfl) (by kernel_rfl) (λ_ _ _ h=>h) (Or.inl ⟨by rfl, ?yb10⟩) hT6 ?rb10
    case yb10=>(intro w hSw;(try dsimp only at hSw);go_simp;all_goals (with_reducible rfl))
    simp only[List.set_cons_succ,List.set_cons_zero];refine Nt.takeS (v:=.agg xs) 11 89 rfl rfl (by kernel_rfl) (by kernel_rfl) (by kernel_rfl) (λ_ _ _ h=>h) (yieldsIf_load_mid (by rfl) 32 _ rfl w.heap.size 0 rfl xs.toList _ (λ_ hw=>hw.1) ha rfl ial) hT6 ?_;simp only[List.set_cons_succ,List.set_cons_zero];refine Nt.takeS (v:=.agg (Dd.row s)) 12 90 rfl rfl (by kernel_rfl) (by kernel_rfl) (by kernel_rfl) (λ_ _ _ h=>h) (yieldsIf_load_mid (by rfl) 41 _ rfl p 0 rfl (Dd.ints s) _ (λ_ hw=>hw.2.2.1) hu rfl jl) hT6 ?_;simp only[List.set_cons_succ,List.set_cons_zero];refine Nt.takeS (v:=.agg ys) 14 92 rfl rfl (by kernel_rfl) (by kernel_rfl) (by kernel_rfl) (λ_ _ _ h=>h) (yieldsIf_load_mid (by rfl) 48 _ rfl q 0 rfl ys.toList _ (λ_ hw=>hw.2.1) hr rfl yil) hT6 ?_;simp only[List.set_cons_succ,List.set_cons_zero];refine Nt.takeS (v:=.agg (Dd.row s)) 15 93 rfl rfl (by kernel_rfl) (by kernel_rfl) (by kernel_rfl) (λ_ _ _ h=>h) (yieldsIf_load_mid (by rfl) 53 _ rfl v 0 rfl (Dd.ints s) _ (λ_ hw=>hw.2.2.2) hus rfl jr) hT6 ?_;simp only[List.set_cons_succ,List.set_cons_zero];refine wpAnyH_ready (rs:= [13]) (by kernel_rfl) (by simp) ?_;refine AllReadyH.cons rfl (λK hK=> ?_) AllReadyH.nil;go_simp
    go_at_call 21
    refine Calls.mono (CO1.out _ HB6.out) ?_;rintro e' W113 ⟨rfl,hb13⟩;have HB13:Hid (Below WC.heap.size WC W113):=HB6.out.trans (hb13.mono HB6.out.size);clear hb13
    go_wp2_with fail
    refine hK.out _ _ ?_ (λhT13=> ?_)
    ·exact HSS.out _ HB13.out
    clear hK K
    first|refine Nt.normS 91 rfl ?_|skip
    first|(simp only[List.set_cons_succ,List.set_cons_zero])|skip
    refine wpAnyH_ready (rs:= [16]) (by kernel_rfl) (by simp) ?_;refine AllReadyH.cons rfl (λK hK=> ?_) AllReadyH.nil;go_simp
    go_at_call 22
    refine Calls.mono (CO2.out _ HB13.out) ?_;rintro e' W116 ⟨rfl,hb16⟩;have HB16:Hid (Below WC.heap.size WC W116):=HB13.out.trans (hb16.mono HB13.out.size);clear hb16
    go_wp2_with fail
    refine hK.out _ _ ?_ (λhT16=> ?_)
    ·exact HSS.out _ HB16.out
    clear hK K
    first|refine Nt.normS 94 rfl ?_|skip
    first|(simp only[List.set_cons_succ,List.set_cons_zero])|skip
    refine Nt.takeS (v:= ?vc17) 17 95 rfl rfl (by kernel_rfl) (by kernel_rfl) (by kernel_rfl) (λ_ _ _ h=>h) (Or.inl ⟨by rfl, ?yc17⟩) hT16 ?rc17
    case yc17=>(intro w hSw;(try dsimp only at hSw);go_simp;all_goals (with_reducible rfl))
    simp only[List.set_cons_succ,List.set_cons_zero];refine Nt.takeS (v:= ?vc18) 18 96 rfl rfl (by kernel_rfl) (by kernel_rfl) (by kernel_rfl) (λ_ _ _ h=>h) (Or.inl ⟨by rfl, ?yc18⟩) hT16 ?rc18
    case yc18=>(intro w hSw;(try dsimp only at hSw);go_simp;all_goals (with_reducible rfl))
    simp only[List.set_cons_succ,List.set_cons_zero];refine wpAnyH_done (by kernel_rfl) ?_ _
    go_wp2_with fail
    go_meet;exact⟨rfl,rfl,HB16.out⟩
   case rest=>
    rename World=>WX;obtain⟨rfl,rfl,HWX⟩:=hcut;have HLX:Hid (Dd.LFr w1 W6 W5.heap.size p q v ys s s WX):=HLC.out.step HWX.out;clear HSS HD0 CO1 CO2 HQE c8
    by_cases hr0:m1=0
    ·have e0:((m1:Int)==0)=true:=by simp[hr0]
     have e0':(m1==0)=true:=by simp[hr0]
     go_wp2;go_roundg (g1-1)
     case measure=>have:=HJL.out;omega
     case rel=>exact⟨j+1,s,by have:=HJL.out;omega,by go_num,HJ.out.1,HJ.out.2.1,HLX.out⟩
    have e0:((m1:Int)==0)=false:=by simpa using hr0
    have e0':(m1==0)=false:=by simpa using hr0
    have hr2:0<m1:=by omega
    by_cases hx0:x<0
    ·have dx:decide (x<0)=true:=decide_eq_true hx0
     go_wp2;go_roundg (g1-1)
     case measure=>have:=HJL.out;omega
     case rel=>exact⟨j+1,s,by have:=HJL.out;omega,by go_num,HJ.out.1,HJ.out.2.1,HLX.out⟩
    have dx:decide (x<0)=false:=decide_eq_false hx0;obtain⟨P,rfl⟩:∃P:Nat,x=P:=⟨x.toNat,by omega⟩;have hPr:P%m1<m1:=Nat.mod_lt _ hr2;obtain⟨g7,off7,rfl,hg7,z7⟩:=HAT.out (P%m1) hPr;obtain⟨b,hb⟩:=pE (L.getD (P%m1) 0);rw[hb]at z7
    have HI:Hid (b<i/\s.getD (40+b) 0=1):=by
     refine Dd.running_mem.1 ?_;have hm':P%m1<L.length:=by rw[HLR.out.2];exact hPr
     rw[List.getD_eq_getElem?_getD,List.getElem?_eq_getElem hm',Option.getD_some]at hb;rw[HLR.out.1,<-hb];exact List.getElem_mem _
    obtain⟨k,hk⟩:=pE (P%m1);have hmod:Int.tmod (P:Int) (m1:Int)=(k:Int):=by rw[<-hk];rfl
    rw[hk]at hPr z7;rw[<-HWX.out.cell (p:=⟨g7,off7+k,none⟩) hg7]at z7;have k0:(0:Int)<=k:=by omega
    have k1:(k:Int)<m1:=by omega
    have hrne:¬(m1:Int)=0:=by omega
    clear hb hg7 hk;have hik:b<(Dd.kkOf T).length:=by rw[HKL.out];exact HI.out.1
    obtain⟨gk7,ok7,rfl,hgk,y0,y2⟩:=HT.out.2.2.2.2.2.1 b hik;have hil:b<T.ks.length:=by rw[HT.out.2.2.2.1];exact HI.out.1
    obtain⟨X,hX⟩:=pE (T.ks[b]);have hkX:(Dd.kkOf T)[b]=(X.kind,X.a):=by rw[<-hX];simp[Dd.kkOf]
    rw[hkX]at y0 y2;obtain⟨K,hK⟩:=pE (X.kind);have hgate:Dd.gateB (Dd.kkOf T) b=decide (K=12):=by rw[Dd.gateB_kk T b hil,hX,hK]
    rw[hK]at y0;have HKK:Hid (Dd.gateB (Dd.kkOf T) b=decide (K=12)/\X.kind=K/\b<(Dd.kkOf T).length/\gk7<w.heap.size/\w.cell? ⟨gk7,ok7+b*12,none⟩=some (.int .i64 K)):=⟨hgate,hK,hik,hgk,y0⟩;have HXX:Hid (∃h:b<T.ks.length,T.ks[b]=X):=⟨hil,hX⟩;have i0:(0:Int)<=b:=by omega
    have i1:(b:Int)<i:=by have:=HI.out.1;omega
    obtain⟨nxX,hbwX,-,c8,-⟩:=HX.out WX HLX.out.bel;have yk:WX.cell? ⟨gk7,ok7+b*12,none⟩=some (.int .i64 K):=by rw[hbwX.cell (p:=⟨gk7,ok7+b*12,none⟩) hgk];exact y0
    have NSX:=HLX.out.sp.h;have isX:=Dd.info_row HJ.out.1.len;have ivX:=Dd.rinfo_row HJ.out.1.len;clear hkX hX hK hgate hik hil hgk y0 y2
    by_cases hK12:K=12
    rotate_left
    ·have eK:(K==12)=false:=by simpa using hK12
     have HF:Hid (Dd.finR true T.ls (Dd.kkOf T) s b=(Dd.finished T.ls (Dd.kkOf T) s b,0)):=by
      have h:=Dd.fin_run HRW.out.right.web HJ.out.1 HKK.out.2.2.1 HI.out.2;rw[HKK.out.1,if_neg (by simpa using hK12)]at h;exact h
     have haf:=Dd.After.finish HRW.out.right.web HJ.out.1 HKK.out.2.2.1 HI.out.2;obtain⟨t2,ht2⟩:=pE (Dd.finished T.ls (Dd.kkOf T) s b);rw[ht2]at haf HF;have HT2:Hid (Dd.After T.ls (Dd.kkOf T) s b t2/\t2.length=104/\Dd.finR true T.ls (Dd.kkOf T) s b=(t2,0)):=⟨haf,haf.inv.len,HF.out⟩
     have CC:Hid (∀W,Below w1.heap.size w1 W->Calls Tryz.prog 17 #[.agg xs,.agg (Dd.row s),.int .i64 b] W λe w'=>e=.returned (.tuple #[.agg (Dd.row t2),.int .i64 0])/\Below W.heap.size W w'):=λW hb=>by
      have h:=CX.out.finish W s b (HX.out W hb).2.1 HJ.out.1.len;rw[HF.out]at h;exact h
     clear hK12 ht2 haf hbwX HF
     go_upto_region 29 with fail
     go_wp2_with (first
      |refine wpList_load_row rfl 32 _ rfl _ rfl 32 _ (0,0) _ nxX ha rfl ia ?_
      |refine wpList_load_row rfl 41 _ rfl _ rfl 41 (Dd.row s) (0,0) _ NSX hu rfl isX ?_)
     refine Calls.mono (CC.out WX HLX.out.bel) ?_;rintro e' WD ⟨rfl,hbD⟩;have HLD:Hid (Dd.LFr w1 W6 W5.heap.size p q v ys s s WD):=HLX.out.step hbD;obtain⟨WE,hWE⟩:=pE (WD.setRow p (Dd.row t2));have HLE:Hid (Dd.LFr w1 W6 W5.heap.size p q v ys t2 s WE):=by rw[<-hWE];exact HLD.out.setP HT2.out.2.1
     have NSD:=HLD.out.sp.h;have i2:=Dd.info_row HT2.out.2.1;have o2:=Dd.row_one t2;have ez:(Dd.row s).size=(Dd.row t2).size:=by rw[Dd.row_size,Dd.row_size,HT2.out.2.1,HJ.out.1.len]
     have HWE:Hid _:=hWE;clear hbD hWE nxX NSX isX c8 yk z7 CC
     go_upto_region 30 with(refine wpList_store_row rfl 41 _ _ rfl p (Dd.row t2) rfl rfl 41 _ NSD i2 ez o2 ?_)
     rw[HWE.out]
     have RCE:Hid (Calls Tryz.prog 18 #[.agg ys,.agg (Dd.row s),.int .i64 b] WE λe w'=>e=.returned (.agg (Dd.row (t2++ [0])))/\Below WE.heap.size WE w'):=by
      have h:=(HRC.out WE t2 s v HLE.out).finish WE s b (Below.refl _ WE) HJ.out.1.len;rw[HT2.out.2.2]at h;exact h
     have NYE:=HLE.out.yq;have NVE:=HLE.out.sv.h;have hfd:∀W:World,(Instr.field 59 (.agg (Dd.row (t2++ [0]))) 0).run Tryz.prog W=.ok (.agg (Dd.row t2)) W:=λW=>Dd.field_got HT2.out.2.1 0 W;have HFD:Hid _:=hfd;clear hfd HWE NSD HLD
     go_wp2_with (first
      |refine wpList_load_row rfl 48 _ rfl _ rfl 48 ys (0,0) _ NYE hr rfl yi ?_
      |refine wpList_load_row rfl 53 _ rfl _ rfl 53 (Dd.row s) (0,0) _ NVE hus rfl ivX ?_)
     refine Calls.mono RCE.out ?_;rintro e' WF ⟨rfl,hbF⟩;have HLF:Hid (Dd.LFr w1 W6 W5.heap.size p q v ys t2 s WF):=HLE.out.step hbF;obtain⟨WG,hWG⟩:=pE (WF.setRow v (Dd.row t2));have HLG:Hid (Dd.LFr w1 W6 W5.heap.size p q v ys t2 t2 WG):=by rw[<-hWG];exact HLF.out.setV HT2.out.2.1
     have NVF:=HLF.out.sv.h;have i3:=Dd.rinfo_row HT2.out.2.1;have HWG:Hid _:=hWG;have hfd:=HFD.out;clear hbF hWG NYE NVE RCE HLE
     go_upto_region 31 with(refine wpList_store_row rfl 53 _ _ rfl v (Dd.row t2) rfl rfl 53 _ NVF i3 ez o2 ?_)
     rw[HWG.out];clear hfd NVF;go_wp2;go_roundg (g1-1)
     case measure=>have:=HJL.out;omega
     case rel=>exact⟨j+1,t2,by have:=HJL.out;omega,by go_num,HT2.out.1.inv,HT2.out.1.calm,HLG.out⟩
    have eK:(K==12)=true:=by simp[hK12]
    have hgt:Dd.gateB (Dd.kkOf T) b=true:=by rw[HKK.out.1];exact decide_eq_true hK12
    obtain⟨hil,hX⟩:=HXX.out
    have hA3:X.a=3:=by
     have h:=HJ.out.1.gt b HI.out.2
     by_cases q:X.a=3
     ·exact q
     exact absurd ⟨hgt,by rw[Dd.doesI_kk T b hil,hX];exact q⟩ h
    obtain⟨cn,hcn⟩:=pE (X.cs.length)
    have hcn2:2<=cn:=by
     have h:=HRW.out.gate b hil (by rw[hX];exact HKK.out.2.1.trans hK12) (by rw[hX];exact hA3);rw[hX,hcn]at h;exact h
    have hcnt:(T.ls.countP λx=>decide (x.1=(b:Int)))=cn:=by
     have h:=HRW.out.right.outs b hil (by rw[hX];exact HKK.out.2.1.trans hK12) (by rw[hX];exact hA3);rw[hX,hcn]at h;exact h
    have hcn40:cn<=40:=by
     have h:=List.countP_le_length (p:=λx:Int×Int=>decide (x.1=(b:Int))) (l:=T.ls);have:=HRW.out.right.web.l40;omega
    obtain⟨o,ho⟩:=pE (P%cn);have hol:o<cn:=by rw[<-ho];exact Nat.mod_lt _ (by omega)
    obtain⟨c,hc1,hc2⟩:=Dd.cho_run HRW.out.right.web HJ.out.1 HKK.out.2.2.1 HI.out.2 hgt (o:=o) (by rw[hcnt];exact hol);obtain⟨t2,ht2⟩:=pE (Dd.chose T.ls (Dd.kkOf T) s b c);have haf:=Dd.After.choose HRW.out.right.web HJ.out.1 HKK.out.2.2.1 HI.out.2 hgt hc1;rw[ht2]at haf hc2;have HT2:Hid (Dd.After T.ls (Dd.kkOf T) s b t2/\t2.length=104/\Dd.choR true T.ls (Dd.kkOf T) s b o=(t2,0)):=⟨haf,haf.inv.len,hc2⟩
    have CC:Hid (∀W,Below w1.heap.size w1 W->Calls Tryz.prog 23 #[.agg xs,.agg (Dd.row s),.int .i64 b,.int .i64 o] W λe w'=>e=.returned (.tuple #[.agg (Dd.row t2),.int .i64 0])/\Below W.heap.size W w'):=λW hb=>by
     have h:=CX.out.choose W s b o (HX.out W hb).2.1 HJ.out.1.len (by omega) (by omega);rw[hc2]at h;exact h
    have hkd:∃ca cc,w.cell? ⟨gk7,ok7+b*12+7,none⟩=some (.slice ca cn cc):=by
     have hl:=HT.out.1
     cases dd with
     |zero=>exact hl.elim
     |succ dd=>
      obtain⟨g',off',U,h1,h2,h3,h4⟩:=hl.kid HT.out.2.2.2.2.2.2.2 b hil;obtain⟨rfl,rfl⟩:gk7=g'/\ok7=off':=by simpa using h1
      obtain⟨ca,cc,hvc,_⟩:=h4.own.c;rw[hX,hcn]at hvc;have h7:=h3 7 (by simp[Ac.row]);rw[h7];exact⟨ca,cc,by rw[<-hvc];simp[Ac.row]⟩
    obtain⟨ca,cc,hkc⟩:=hkd;have kc7:WX.cell? ⟨gk7,ok7+b*12+7,none⟩=some (.slice ca cn cc):=by rw[hbwX.cell (p:=⟨gk7,ok7+b*12+7,none⟩) HKK.out.2.2.2.1];exact hkc
    have hmod2:Int.tmod (P:Int) (cn:Int)=(o:Int):=by rw[<-ho];rfl
    have hcne:¬cn=0:=by omega
    have hcnz:¬(cn:Int)=0:=by omega
    clear hK12 hgt hX hA3 hcn hcnt ho hol hc1 hc2 ht2 haf hkc hbwX
    go_upto_region 27 with fail
    go_wp2_with (first
     |refine wpList_load_row rfl 32 _ rfl _ rfl 32 _ (0,0) _ nxX ha rfl ia ?_
     |refine wpList_load_row rfl 41 _ rfl _ rfl 41 (Dd.row s) (0,0) _ NSX hu rfl isX ?_)
    refine Calls.mono (CC.out WX HLX.out.bel) ?_;rintro e' WD ⟨rfl,hbD⟩;have HLD:Hid (Dd.LFr w1 W6 W5.heap.size p q v ys s s WD):=HLX.out.step hbD;obtain⟨WE,hWE⟩:=pE (WD.setRow p (Dd.row t2));have HLE:Hid (Dd.LFr w1 W6 W5.heap.size p q v ys t2 s WE):=by rw[<-hWE];exact HLD.out.setP HT2.out.2.1
    have NSD:=HLD.out.sp.h;have i2:=Dd.info_row HT2.out.2.1;have o2:=Dd.row_one t2;have ez:(Dd.row s).size=(Dd.row t2).size:=by rw[Dd.row_size,Dd.row_size,HT2.out.2.1,HJ.out.1.len]
    have HWE:Hid _:=hWE;clear hbD hWE nxX NSX isX c8 yk z7 kc7 CC
    go_upto_region 28 with(refine wpList_store_row rfl 41 _ _ rfl p (Dd.row t2) rfl rfl 41 _ NSD i2 ez o2 ?_)
    rw[HWE.out]
    have RCE:Hid (Calls Tryz.prog 24 #[.agg ys,.agg (Dd.row s),.agg #[.int .i64 b,.int .i64 o]] WE λe w'=>e=.returned (.agg (Dd.row (t2++ [0])))/\Below WE.heap.size WE w'):=by
     have h:=(HRC.out WE t2 s v HLE.out).choose WE s b o (Below.refl _ WE) HJ.out.1.len;rw[HT2.out.2.2]at h;exact h
    have NYE:=HLE.out.yq;have NVE:=HLE.out.sv.h;have hfd:∀W:World,(Instr.field 59 (.agg (Dd.row (t2++ [0]))) 0).run Tryz.prog W=.ok (.agg (Dd.row t2)) W:=λW=>Dd.field_got HT2.out.2.1 0 W;have HFD:Hid _:=hfd;clear hfd HWE NSD HLD
    go_wp2_with (first
     |refine wpList_load_row rfl 48 _ rfl _ rfl 48 ys (0,0) _ NYE hr rfl yi ?_
     |refine wpList_load_row rfl 53 _ rfl _ rfl 53 (Dd.row s) (0,0) _ NVE hus rfl ivX ?_)
    refine Calls.mono RCE.out ?_;rintro e' WF ⟨rfl,hbF⟩;have HLF:Hid (Dd.LFr w1 W6 W5.heap.size p q v ys t2 s WF):=HLE.out.step hbF;obtain⟨WG,hWG⟩:=pE (WF.setRow v (Dd.row t2));have HLG:Hid (Dd.LFr w1 W6 W5.heap.size p q v ys t2 t2 WG):=by rw[<-hWG];exact HLF.out.setV HT2.out.2.1
    have NVF:=HLF.out.sv.h;have i3:=Dd.rinfo_row HT2.out.2.1;have HWG:Hid _:=hWG;have hfd:=HFD.out;clear hbF hWG NYE NVE RCE HLE
    go_upto_region 31 with(refine wpList_store_row rfl 53 _ _ rfl v (Dd.row t2) rfl rfl 53 _ NVF i3 ez o2 ?_)
    rw[HWG.out];clear hfd NVF;go_wp2;go_roundg (g1-1)
    case measure=>have:=HJL.out;omega
    case rel=>exact⟨j+1,t2,by have:=HJL.out;omega,by go_num,HT2.out.1.inv,HT2.out.1.calm,HLG.out⟩
end Go.Proofs.YtmomffminkflnaaGreatDoor.DeadRuns
