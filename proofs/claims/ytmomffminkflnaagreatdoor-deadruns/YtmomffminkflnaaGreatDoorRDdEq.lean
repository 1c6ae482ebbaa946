import Derived.Test.YtmomffminkflnaaGreatDoorRDdDocM
import Derived.ChangeKeysEq
import Derived.Laws.StructEq
import Derived.Test.YtmomffminkflnaaGreatDoorRNtCount
set_option maxRecDepth 100000
set_option maxHeartbeats 32000000
namespace Go.Proofs
open Go.RowKit Go.ChangeShapes Go.WideShapes
theorem Dd.info_int: ∃i,Tryz.prog.info? 3=some i:=⟨_,rfl⟩
theorem Dd.cells_int:Tryz.prog.cellsOf 3=1:=by kernel_rfl
theorem Dd.int_eq(d:Nat)(a b:Int)(W:World):(Op.equalIn(d+1)3(.int .i64 a)(.int .i64 b)).run Tryz.prog W= .ok(decide(a=b))W:=by
 by_cases h:a=b<;>simp [Op.equalIn,go_sem,h]
theorem Dd.part_int(cs:Array Value)(j:Nat)(x:Int)(hc:cs[j]? =some(.int .i64 x))(W:World):(part 3 cs j).run Tryz.prog W= .ok(.int .i64 x)W:=by
 simp [part,Tryz.isAgg3,hc,go_sem]
theorem Dd.items_eq(d:Nat)(xs ys:Array Value)(f g:Nat->Int)(W:World): ∀(is:List Nat),(∀j∈is,xs[j]? =some(.int .i64(f j))/\ys[j]? =some(.int .i64(g j)))->(Op.eqItems(d+1)3 1 xs ys is).run Tryz.prog W= .ok(is.all λj=>decide(f j=g j))W
 | [],_=>by simp [Op.eqItems]
 |j::is,h=>by
  obtain⟨hx,hy⟩:=h j List.mem_cons_self;have h1:=Dd.part_int xs j _ hx W;have h2:=Dd.part_int ys j _ hy W;have ih:=Dd.items_eq d xs ys f g W is λk hk=>h k(List.mem_cons_of_mem _ hk);rw [Op.eqItems];simp only [Sem.run_bind,Nat.mul_one,h1,h2,Result.andThen_ok,Dd.int_eq d]
  by_cases he:f j=g j
  ·simp only [he,decide_true,List.all_cons,Bool.true_and]
   first|exact ih|simpa using ih
  have hf:decide(f j=g j)=false:=decide_eq_false he;simp only [hf,List.all_cons,Bool.false_and];rfl
theorem Dd.arr_eq40(d:Nat)(xs ys:Array Value)(f g:Nat->Int)(W:World)(h: ∀j,j<40->xs[j]? =some(.int .i64(f j))/\ys[j]? =some(.int .i64(g j))):(Op.equalIn(d+2)38(.agg xs)(.agg ys)).run Tryz.prog W= .ok((List.range 40).all λj=>decide(f j=g j))W:=by
 obtain⟨i,hi⟩:=Dd.info_int;rw [run_equalIn_array W(d+1)_ _ Tryz.underlying38 hi,Dd.cells_int];exact Dd.items_eq d xs ys f g W _ λj hj=>h j(List.mem_range.1 hj)
theorem Dd.arr_eq64(d:Nat)(xs ys:Array Value)(f g:Nat->Int)(W:World)(h: ∀j,j<64->xs[j]? =some(.int .i64(f j))/\ys[j]? =some(.int .i64(g j))):(Op.equalIn(d+2)39(.agg xs)(.agg ys)).run Tryz.prog W= .ok((List.range 64).all λj=>decide(f j=g j))W:=by
 obtain⟨i,hi⟩:=Dd.info_int;rw [run_equalIn_array W(d+1)_ _ Tryz.underlying39 hi,Dd.cells_int];exact Dd.items_eq d xs ys f g W _ λj hj=>h j(List.mem_range.1 hj)
theorem Dd.part40(cs:Array Value)(o:Nat)(W:World):(part 38 cs o).run Tryz.prog W= .ok(.agg(cs.extract o(o+40)))W:=by
 simp [part,Tryz.isAgg38,Tryz.sizeOf38,go_sem]
theorem Dd.part64(cs:Array Value)(o:Nat)(W:World):(part 39 cs o).run Tryz.prog W= .ok(.agg(cs.extract o(o+64)))W:=by
 simp [part,Tryz.isAgg39,Tryz.sizeOf39,go_sem]
theorem Dd.row_extract {t:List Int} (h:t.length=104)(o k j:Nat)(hj:j<k)(hk:o+k<=104):((Dd.row t).extract o(o+k))[j]? =some(.int .i64(t.getD(o+j)0)):=by
 have hs:(Dd.row t).size=104:=by rw [Dd.row_size];exact h
 rw [Array.getElem?_extract,if_pos(by rw [hs];omega)];exact Dd.row_get(by omega)
theorem Dd.eqFields_cons(d:Nat)(xs ys:Array Value)(f:Field)(fs:List Field)(W:World)(a b:Value)(e:Bool)(hn:f.name≠ "_")(hp:(part f.type xs f.offset).run Tryz.prog W= .ok a W)(hq:(part f.type ys f.offset).run Tryz.prog W= .ok b W)(he:(Op.equalIn d f.type a b).run Tryz.prog W= .ok e W):
  (Op.eqFields d xs ys(f::fs)).run Tryz.prog W=if e=true then(Op.eqFields d xs ys fs).run Tryz.prog W else .ok false W:=by
 rw [Op.eqFields,if_pos hn];simp only [Sem.run_bind,hp,hq,Result.andThen_ok,he]
 cases e<;>rfl
theorem Dd.st_eq_raw(s t:List Int)(hs:s.length=104)(ht:t.length=104)(W:World):(Op.equalIn 10000 41(.agg(Dd.row s))(.agg(Dd.row t))).run Tryz.prog W= .ok((List.range 40).all(λj=>decide(s.getD(0+j)0=t.getD(0+j)0))&&(List.range 64).all(λj=>decide(s.getD(40+j)0=t.getD(40+j)0)))W:=by
 show(Op.equalIn(9999+1)41 _ _).run Tryz.prog W=_;rw [run_equalIn_struct W 9999 _ _ _(by kernel_rfl)(by kernel_rfl)];have p0:(part 38(Dd.row s)0).run Tryz.prog W= .ok(.agg((Dd.row s).extract 0(0+40)))W:=Dd.part40 _ 0 W;have p1:(part 39(Dd.row s)40).run Tryz.prog W= .ok(.agg((Dd.row s).extract 40(40+64)))W:=Dd.part64 _ 40 W;have q0:(part 38(Dd.row t)0).run Tryz.prog W= .ok(.agg((Dd.row t).extract 0(0+40)))W:=Dd.part40 _ 0 W;have q1:(part 39(Dd.row t)40).run Tryz.prog W= .ok(.agg((Dd.row t).extract 40(40+64)))W:=Dd.part64 _ 40 W;have r0:=Dd.arr_eq40 9997((Dd.row s).extract 0(0+40))((Dd.row t).extract 0(0+40))(λj=>s.getD(0+j)0)(λj=>t.getD(0+j)0)W λj hj=>⟨Dd.row_extract hs 0 40 j hj(by omega),Dd.row_extract ht 0 40 j hj(by omega)⟩;have r1:=Dd.arr_eq64 9997((Dd.row s).extract 40(40+64))((Dd.row t).extract 40(40+64))(λj=>s.getD(40+j)0)(λj=>t.getD(40+j)0)W λj hj=>⟨Dd.row_extract hs 40 64 j hj(by omega),Dd.row_extract ht 40 64 j hj(by omega)⟩;obtain⟨e0,he0⟩: ∃z,((List.range 40).all λj=>decide(s.getD(0+j)0=t.getD(0+j)0))=z:=⟨_,rfl⟩;obtain⟨e1,he1⟩: ∃z,((List.range 64).all λj=>decide(s.getD(40+j)0=t.getD(40+j)0))=z:=⟨_,rfl⟩;rw [he0]at r0⊢;rw [he1]at r1⊢;obtain⟨cs,hcs⟩: ∃z,Dd.row s=z:=⟨_,rfl⟩;obtain⟨ct,hct⟩: ∃z,Dd.row t=z:=⟨_,rfl⟩;rw [hcs]at p0 p1 r0 r1⊢
 rw [hct]at q0 q1 r0 r1⊢;unfold Program.fieldsOf;rw [Tryz.underlying41];change(Op.eqFields 9999 cs ct(_::_:: [])).run Tryz.prog W=_;refine(Dd.eqFields_cons 9999 cs ct _ _ W _ _ e0(by decide)p0 q0 r0).trans ?_
 cases e0 with
 |false=>rfl
 |true=>
  rw [if_pos rfl];refine(Dd.eqFields_cons 9999 cs ct _ _ W _ _ e1(by decide)p1 q1 r1).trans ?_
  cases e1<;>rfl
theorem Dd.st_eq(s t:List Int)(hs:s.length=104)(ht:t.length=104)(W:World):(Op.equalIn 10000 41(.agg(Dd.row s))(.agg(Dd.row t))).run Tryz.prog W= .ok(decide(s=t))W:=by
 rw [Dd.st_eq_raw s t hs ht W]
 congr 1
 rw [Bool.eq_iff_iff,Bool.and_eq_true,decide_eq_true_iff,List.all_eq_true,List.all_eq_true]
 constructor
 ·rintro⟨h1,h2⟩
  refine Dd.ext hs ht λi hi=> ?_
  by_cases q:i<40
  ·have:=of_decide_eq_true(h1 i(List.mem_range.2 q))
   rwa [Nat.zero_add]at this
  have:=of_decide_eq_true(h2(i-40)(List.mem_range.2(by omega)))
  rwa [show 40+(i-40)=i by omega]at this
 rintro rfl;exact⟨λ_ _=>decide_eq_true rfl,λ_ _=>decide_eq_true rfl⟩
end Go.Proofs
namespace Go.Proofs
open Go.RowKit Go.Shelf
theorem Dd.nextK_stop {ls kk:List(Int×Int)} {s t:List Int} : ∀ {j k:Nat},Dd.nextK ls kk s j=some t->j<=k->Dd.nextK ls kk s k=some t
 |j,0,h,hk=>by obtain rfl:j=0:=by omega
               exact h
 |j,k+1,h,hk=>by
  by_cases q:j=k+1
  ·subst q;exact h
  rw [Dd.nextK,Dd.nextK_stop h(by omega:j<=k)]
theorem Dd.next_wait {ls kk:List(Int×Int)} (hw:Dd.Web ls kk) {s:List Int} (hl:s.length=104)(h:Dd.waits kk.length s=0):Dd.nextK ls kk s kk.length=none:=by
 cases hq:Dd.nextK ls kk s kk.length with
 |none=>rfl
 |some t=>have:=(Dd.next_waits hw hl hq).2;omega
theorem Dd.settleF_none {ls kk:List(Int×Int)} {s:List Int} (h:Dd.nextK ls kk s kk.length=none): ∀f,Dd.settleF ls kk f s=s
 |0=>rfl
 |f+1=>by rw [Dd.settleF,h]
theorem Dd.settleF_fuel {ls kk:List(Int×Int)} (hw:Dd.Web ls kk): ∀(f g:Nat)(s:List Int),s.length=104->Dd.waits kk.length s<=f->Dd.waits kk.length s<=g->Dd.settleF ls kk g s=Dd.settleF ls kk f s
 |0,g,s,hl,h,_=>by rw [Dd.settleF_none(Dd.next_wait hw hl(by omega))g];rfl
 |f+1,0,s,hl,_,h=>by rw [Dd.settleF_none(Dd.next_wait hw hl(by omega))(f+1)];rfl
 |f+1,g+1,s,hl,h1,h2=>by
  rw [Dd.settleF,Dd.settleF]
  cases hq:Dd.nextK ls kk s kk.length with
  |none=>rfl
  |some t=>
   obtain⟨h3,h4⟩:=Dd.next_waits hw hl hq;exact Dd.settleF_fuel hw f g t h3(by omega)(by omega)
theorem Tryz.settle_any(x0 x1 x2 x3 x4 x5 x6 x7 x10 x11:Value)(ka la:Option Addr)(n kc m lc:Nat)(ls kk:List(Int×Int))(l:List Int)(w:World)(hL:Ac.Lks w w.heap.size la ls)(hK:Dd.Kds w w.heap.size ka kk)(hl:l.length=104)(hm:ls.length=m)(hn:kk.length=n)(hW:Dd.Web ls kk):
  Calls Tryz.prog 27 #[.agg #[x0,x1,x2,x3,x4,x5,x6,x7, .slice ka n kc, .slice la m lc,x10,x11], .agg(Dd.row l)]w λe w'=>e= .returned(.agg(Dd.row(Dd.settle ls kk l)))/\Below w.heap.size w w':=by
 obtain⟨R,hR⟩: ∃R,Dd.settle ls kk l=R:=⟨_,rfl⟩;rw [hR];obtain⟨w1,hw1⟩: ∃z,(((w.alloc(.cells #[x0,x1,x2,x3,x4,x5,x6,x7, .slice ka n kc, .slice la m lc,x10,x11]32)).alloc(.cells(Dd.row l)41)).alloc(.cells Tryz.zeroCells41 41))=z:=⟨_,rfl⟩;have F1:=Dd.Fr.new w #[x0,x1,x2,x3,x4,x5,x6,x7, .slice ka n kc, .slice la m lc,x10,x11]hl;rw [hw1]at F1;have H1:Hid _:=hw1;have n64:n<=64:=by have:=hW.k64;omega
 have HB:Hid(Dd.Web ls kk/\ls.length=m/\kk.length=n):=⟨hW,hm,hn⟩
 have HD:Hid(∀(W:World)(s:List Int)(k:Nat),Below w.heap.size w W->s.length=104->k<n->Calls Tryz.prog 39 #[.agg #[x0,x1,x2,x3,x4,x5,x6,x7, .slice ka n kc, .slice la m lc,x10,x11], .agg(Dd.row s), .int .i64 k]W λe w'=>e= .returned(.agg(Dd.row(Dd.decided ls kk s k)))/\Below W.heap.size W w'):=λW s k hb hs hk=>
  Tryz.decided_any x0 x1 x2 x3 x4 x5 x6 x7 x10 x11 ka la n kc m lc ls kk s k W((hL.keep hb.block).wider hb.size)((hK.keep hb.block).wider hb.size)hs hm(by have:=hW.l40;omega)hn n64 hk
 have HF1:Hid(Dd.Fr w #[x0,x1,x2,x3,x4,x5,x6,x7, .slice ka n kc, .slice la m lc,x10,x11]l Dd.zeros w1/\Dd.settleF ls kk(Dd.waits n l)l=R):=by
  refine⟨F1, ?_⟩;rw [<-hR,<-hn];exact Dd.settleF_fuel hW _ _ l hl(Dd.waits_le _ _)(Nat.le_refl _)
 have hu:=Tryz.underlying41;have ha:=Tryz.underlying32;have ia:(Tryz.prog.info? 32).map(·.size)=some(#[x0,x1,x2,x3,x4,x5,x6,x7, .slice ka n kc, .slice la m lc,x10,x11]:Array Value).size:=Dd.info_act;clear hL hK hl hm hn hR hw1 F1 hW
 go_enter Tryz.func27,Tryz.ntmps27
 go_upto_region 1 with fail
 rw [H1.out]
 go_step3
 go_wp2
 go_step3
 go_wp2
 go_loopg [5,10](Dd.waits n l)(λgk _ _ wr=> ∃s:List Int,Hid(s.length=104/\Dd.waits n s<=gk/\Dd.settleF ls kk gk s=R/\Dd.Fr w #[x0,x1,x2,x3,x4,x5,x6,x7, .slice ka n kc, .slice la m lc,x10,x11]s Dd.zeros wr))
 case atStart=>exact⟨l,HF1.out.1.st.len,Nat.le_refl _,HF1.out.2,HF1.out.1⟩
 case round=>
  obtain⟨s,HJ⟩:=hrel;obtain⟨g1,hg1⟩: ∃x,gk=x:=⟨_,rfl⟩;rw [hg1]at HJ;have c8:=HJ.out.2.2.2.cs.2.2.2.2.2.2.2.2.1;obtain⟨W0,hW0⟩: ∃x,wr=x:=⟨_,rfl⟩;rw [hW0]at HJ c8⊢;go_wp2
  go_loopg [5,10]n(λgi _ s10 wr=> ∃j:Nat,gi+j=n/\s10= .int .i64 j/\Hid(Dd.nextK ls kk s j=none/\Dd.Fr w #[x0,x1,x2,x3,x4,x5,x6,x7, .slice ka n kc, .slice la m lc,x10,x11]s Dd.zeros wr))
  case atStart=>exact⟨0,by omega,rfl,rfl,HJ.out.2.2.2⟩
  case round=>
   obtain⟨j,hj,rfl,HI⟩:=hrel;clear c8
   by_cases hlt:j<n
   rotate_left
   ·have hd:decide((j:Int)<n)=false:=decide_eq_false(by omega)
    have HR:Hid(s=R/\s.length=104/\Dd.Fr w #[x0,x1,x2,x3,x4,x5,x6,x7, .slice ka n kc, .slice la m lc,x10,x11]s Dd.zeros wr):=by
     refine⟨?_,HJ.out.1,HI.out.2⟩;have h3:=HJ.out.2.2.1;obtain rfl:j=n:=by omega
     rw [<-h3];exact(Dd.settleF_none(by rw [HB.out.2.2];exact HI.out.1)g1).symm
    have NS:=HR.out.2.2.st.h;have NR:=HR.out.2.2.rs.h;have is:=Dd.info_row HR.out.2.1;have e2:(Dd.row Dd.zeros).size=(Dd.row s).size:=by rw [Dd.row_size,Dd.row_size,HR.out.2.1,Dd.zeros_length]
    have e3:=Dd.row_one s;clear HI HJ
    go_wp2_with(first
     |refine wpList_load_row rfl 41 _ rfl _ rfl 41(Dd.row s)(0,0)_ NS hu rfl is ?_
     |refine wpList_store_row rfl 41 _ _ rfl(w.heap.size+1+1)(Dd.row s)rfl rfl 41 _ NR is e2 e3 ?_)
    try rw [Exit.noGoto_ret]
    exact bodyPost_ret(v:= .agg(Dd.row s))(results_cell_row Tryz.results27 _ _(w.heap.size+1+1)41(Dd.row s)(0,0)_ rfl(setRow_heap _ _ _ _ _ _ NR)hu rfl is)rfl⟨by rw [HR.out.1],Tk.below_row HR.out.2.2.bel(by omega)_⟩
   have hd:decide((j:Int)<n)=true:=decide_eq_true(by omega);have NA:=HI.out.2.bx;unfold Dd.Bx at NA;have NS:=HI.out.2.st.h;have is:=Dd.info_row HJ.out.1;have HC:Hid _:=HD.out wr s j HI.out.2.bel HJ.out.1 hlt;have HL:Hid(j<n):=hlt;clear hlt
   go_wp2_with(first
    |refine wpList_load_row rfl 32 _ rfl _ rfl 32 _(0,0)_ NA ha rfl ia ?_
    |refine wpList_load_row rfl 41 _ rfl _ rfl 41(Dd.row s)(0,0)_ NS hu rfl is ?_)
   refine Calls.mono HC.out ?_;rintro e W3⟨rfl,hb3⟩;obtain⟨t,ht⟩: ∃t,Dd.decided ls kk s j=t:=⟨_,rfl⟩;rw [ht];have htl:t.length=104:=by rw [<-ht,Dd.decided_length];exact HJ.out.1
   have F3:=HI.out.2.below hb3;have NZ:(W3.alloc(.cells Tryz.zeroCells41 41)).heap[W3.heap.size]? =some(.cells Tryz.zeroCells41 41(0,0)):=heap_alloc_new W3 _;have B4:Below W3.heap.size W3((W3.alloc(.cells Tryz.zeroCells41 41)).setRow W3.heap.size(Dd.row t)):=Tk.below_row((Below.refl _ W3).alloc(Nat.le_refl _)_)(Nat.le_refl _)_;have N4:((W3.alloc(.cells Tryz.zeroCells41 41)).setRow W3.heap.size(Dd.row t)).heap[W3.heap.size]? =some(.cells(Dd.row t)41(0,0)):=setRow_heap _ _ _ _ _ _ NZ;have F4:=F3.below B4;obtain⟨W4,hW4⟩: ∃z,(W3.alloc(.cells Tryz.zeroCells41 41)).setRow W3.heap.size(Dd.row t)=z:=⟨_,rfl⟩;rw [hW4]at F4 N4;have HW4:Hid _:=hW4;have it:=Dd.info_row htl;have ez:(Tryz.zeroCells41).size=(Dd.row t).size:=by rw [Dd.zero_row,Dd.row_size,Dd.row_size,htl,Dd.zeros_length]
   have o1:=Dd.row_one t;have hneq:w.heap.size+1<W3.heap.size:=F3.st.lt;clear NA NS HC hb3 F3 B4 hW4;have NS4:=F4.st.h;have HT:Hid(Dd.decided ls kk s j=t/\t.length=104/\Dd.Fr w #[x0,x1,x2,x3,x4,x5,x6,x7, .slice ka n kc, .slice la m lc,x10,x11]s Dd.zeros W4/\w.heap.size+1<W3.heap.size):=⟨ht,htl,F4,hneq⟩;clear F4 hneq
   go_upto_region 5 with(refine wpList_store_row rfl 41 _ _ rfl W3.heap.size(Dd.row t)rfl rfl 41 _ NZ it ez o1 ?_)
   rw [HW4.out];clear HW4 NZ
   by_cases hts:t=s
   ·have EQ: ∀W:World,(Op.equalIn 10000 41(.agg(Dd.row t))(.agg(Dd.row s))).run Tryz.prog W= .ok true W:=λW=>by
     rw [Dd.st_eq t s htl HJ.out.1 W,decide_eq_true hts]
    have HN:Hid(Dd.nextK ls kk s(j+1)=none):=by
     show _=_;rw [Dd.nextK,HI.out.1];dsimp only;rw [ht,if_pos hts]
    clear hts ht htl
    go_wp2_with(first
     |refine wpList_load_row rfl 41 _ rfl _ rfl 41(Dd.row t)(0,0)_ N4 hu rfl it ?_
     |refine wpList_load_row rfl 41 _ rfl _ rfl 41(Dd.row s)(0,0)_ NS4 hu rfl is ?_)
    go_roundg(gk-1)
    case measure=>omega
    case rel=>exact⟨j+1,by omega,by go_num,HN.out,HT.out.2.2.1⟩
   have EQ: ∀W:World,(Op.equalIn 10000 41(.agg(Dd.row t))(.agg(Dd.row s))).run Tryz.prog W= .ok false W:=λW=>by
    rw [Dd.st_eq t s htl HJ.out.1 W,decide_eq_false hts]
   have HN:Hid(Dd.nextK ls kk s kk.length=some t):=by
    refine Dd.nextK_stop(j:=j+1) ?_(by have:=HB.out.2.2;have:=HL.out;omega);rw [Dd.nextK,HI.out.1];dsimp only;rw [ht,if_neg hts]
   have HG:Hid(1<=g1/\Dd.waits n t<=g1-1/\Dd.settleF ls kk(g1-1)t=R):=by
    have h1:=(Dd.next_waits HB.out.1 HJ.out.1 HN.out).2;have h2:=HJ.out.2.1;have h3:=HJ.out.2.2.1;rw [HB.out.2.2]at h1;obtain⟨g2,rfl⟩: ∃g2,g1=g2+1:=⟨g1-1,by omega⟩;rw [Dd.settleF,HN.out]at h3;exact⟨by omega,by omega,h3⟩
   have F5:=HT.out.2.2.1.setS htl;have HF5:Hid _:=F5;clear hts ht htl HI HL;have e2:(Dd.row s).size=(Dd.row t).size:=by rw [Dd.row_size,Dd.row_size,HJ.out.1,HT.out.2.1]
   go_wp2_with(first
    |refine wpList_load_row rfl 41 _ rfl _ rfl 41(Dd.row t)(0,0)_ N4 hu rfl it ?_
    |refine wpList_load_row rfl 41 _ rfl _ rfl 41(Dd.row s)(0,0)_ NS4 hu rfl is ?_
    |refine wpList_store_row rfl 41 _ _ rfl(w.heap.size+1)(Dd.row t)rfl rfl 41 _ NS4 it e2 o1 ?_)
   go_roundg(g1-1)
   case measure=>have:=HG.out.1;omega
   case rel=>exact⟨t,HT.out.2.1,HG.out.2.1,HG.out.2.2,HF5.out⟩
def Gm.heldB(xs:List Int)(most:Int):Bool:=xs.all λx=>decide(0<=x)&&decide(x<=most)
theorem Tryz.upto_any(g off c:Nat)(xs:List Int)(most:Int)(W:World)(hx: ∀j(h:j<xs.length),W.cell? ⟨g,off+j,none⟩=some(.int .i64 xs[j]))(hl:xs.length<=1000):
  Calls Tryz.prog 45 #[.int .i64 most, .slice(some⟨g,off,none⟩)xs.length c]W λe w'=>e= .returned(.bool(Gm.heldB xs most))/\w'=W:=by
 obtain⟨n,hn⟩: ∃z,xs.length=z:=⟨_,rfl⟩;obtain⟨r,hr⟩: ∃z,Gm.heldB xs most=z:=⟨_,rfl⟩;rw [hn,hr];have HX:Hid(∀j(h:j<n),∃x,W.cell? ⟨g,off+j,none⟩=some(.int .i64 x)/\xs[j]? =some x):=λj h=>⟨_,hx j(by omega),List.getElem?_eq_getElem(by omega)⟩;have HR:Hid(xs.all(λx=>decide(0<=x)&&decide(x<=most))=r/\xs.length=n):=⟨hr,hn⟩;have hn1:n<=1000:=by omega
 clear hx hn hr hl
 go_enter Tryz.func45,Tryz.ntmps45
 go_wp2
 go_loopg [6,9]n(λgk _ s9 wr=> ∃j:Nat,s9= .int .i64 j/\gk+j=n/\wr=W/\Hid((xs.drop j).all(λx=>decide(0<=x)&&decide(x<=most))=r))
 case atStart=>exact⟨0,rfl,by omega,rfl,HR.out.1⟩
 case round=>
  obtain⟨j,rfl,hj,rfl,HJ⟩:=hrel
  by_cases hlt:j<n
  rotate_left
  ·obtain rfl:j=n:=by omega
   have hd:decide((j:Int)<j)=false:=decide_eq_false(by omega);have HE:Hid(r=true):=by show _=_;rw [<-HJ.out,List.drop_eq_nil_of_le(by rw [HR.out.2];exact Nat.le_refl _)];rfl
   clear HJ;go_wp2;go_ret;exact⟨by rw [HE.out];rfl,rfl⟩
  have hd:decide((j:Int)<n)=true:=decide_eq_true(by omega);obtain⟨x,hc,hxj⟩:=HX.out j hlt
  have hdr:xs.drop j=x::xs.drop(j+1):=by
   obtain⟨h1,h2⟩:=List.getElem?_eq_some_iff.1 hxj;rw [<-h2];exact List.drop_eq_getElem_cons h1
  have j1:(j:Int)<n:=by omega
  have j0:(0:Int)<=j:=by omega
  have HA:Hid((decide(0<=x)&&decide(x<=most)&&(xs.drop(j+1)).all(λx=>decide(0<=x)&&decide(x<=most)))=r):=by
   have:=HJ.out;rw [hdr,List.all_cons]at this;exact this
  clear hdr hxj HJ
  by_cases hx0:x<0
  ·have e1:decide(x<0)=true:=decide_eq_true hx0
   have HE:Hid(r=false):=by show _=_;rw [<-HA.out,decide_eq_false(by omega: ¬0<=x)];rfl
   clear HA hx0;go_wp2;go_ret;exact⟨by rw [HE.out];rfl,rfl⟩
  have e1:decide(x<0)=false:=decide_eq_false hx0
  by_cases hxm:most<x
  ·have e2:decide(most<x)=true:=decide_eq_true hxm
   have HE:Hid(r=false):=by show _=_;rw [<-HA.out,decide_eq_false(by omega: ¬x<=most)];simp
   clear HA hx0 hxm;go_wp2;go_ret;exact⟨by rw [HE.out];rfl,rfl⟩
  have e2:decide(most<x)=false:=decide_eq_false hxm
  have HN:Hid((xs.drop(j+1)).all(λx=>decide(0<=x)&&decide(x<=most))=r):=by
   show _=_;rw [<-HA.out,decide_eq_true(by omega:0<=x),decide_eq_true(by omega:x<=most)];simp
  clear HA hx0 hxm;go_wp2;go_roundg(gk-1)
  case measure=>omega
  case rel=>exact⟨j+1,by go_num,by omega,rfl,HN.out⟩
theorem Tryz.filled_any(g off:Nat)(xs:List Int)(m:Nat)(most:Int)(W:World)(hx: ∀j(h:j<xs.length),W.cell? ⟨g,off+j,none⟩=some(.int .i64 xs[j]))(hl:xs.length<=1000)(hm:m<=xs.length):
  Calls Tryz.prog 34 #[.slice(some⟨g,off,none⟩)xs.length xs.length, .int .i64 m, .int .i64 most]W λe w'=>e= .returned(.bool(Gm.heldB(xs.take m)most&&Gm.heldB(xs.drop m)0))/\w'=W:=by
 have h1:=Tryz.upto_any g off xs.length(xs.take m)most W(λj hj=>by rw [List.getElem_take];exact hx j(by have:=List.length_take_le m xs;simp at hj;omega))(by simp;omega);have h2:=Tryz.upto_any g(off+m)(xs.length-m)(xs.drop m)0 W(λj hj=>by rw [List.getElem_drop];have:=hx(m+j)(by simp at hj;omega);rw [<-Nat.add_assoc]at this;exact this)(by simp;omega);have h3:=Tryz.upto_any g off 0 []0 W(λj hj=>by simp at hj)(by simp);obtain⟨r1,hr1⟩: ∃z,Gm.heldB(xs.take m)most=z:=⟨_,rfl⟩;obtain⟨r2,hr2⟩: ∃z,Gm.heldB(xs.drop m)0=z:=⟨_,rfl⟩;have e1:(xs.take m).length=m:=by simp;omega
 have e2:(xs.drop m).length=xs.length-m:=by simp
 have e3:Gm.heldB []0=true:=rfl;rw [hr1,e1]at h1;rw [hr2,e2]at h2;rw [e3]at h3;rw [hr1,hr2];obtain⟨n,hn⟩: ∃z,xs.length=z:=⟨_,rfl⟩;rw [hn]at h1 h2 hm hl⊢;have m0:(0:Int)<=m:=by omega
 have m1:(m:Int)<=n:=by omega
 have H1:Hid _:=h1;have H2:Hid _:=h2;have H3:Hid _:=h3
 have HE:Hid(n=m->r2=true):=λe=>by
  show _=_;rw [<-hr2,List.drop_eq_nil_of_le(by omega)];rfl
 clear h1 h2 h3 hr1 hr2 e1 e2 e3 hx hn
 cases r1 with
 |false=>
  go_enter Tryz.func34,Tryz.ntmps34
  go_wp2_with fail
  refine Calls.mono H1.out ?_;rintro e W1⟨rfl,rfl⟩;go_wp2;go_ret;exact⟨rfl,rfl⟩
 |true=>
  by_cases hnm:n=m
  ·have:=HE.out hnm
   subst hnm;subst this;clear H2 HE
   go_enter Tryz.func34,Tryz.ntmps34
   go_wp2_with fail
   refine Calls.mono H1.out ?_;rintro e W1⟨rfl,rfl⟩
   go_wp2_with fail
   refine Calls.mono H3.out ?_;rintro e W1⟨rfl,rfl⟩;go_wp2;go_ret;exact⟨rfl,rfl⟩
  clear H3 HE
  go_enter Tryz.func34,Tryz.ntmps34
  go_wp2_with fail
  refine Calls.mono H1.out ?_;rintro e W1⟨rfl,rfl⟩
  go_wp2_with fail
  refine Calls.mono H2.out ?_;rintro e W1⟨rfl,rfl⟩;go_wp2;go_ret;exact⟨rfl,rfl⟩
theorem Dd.linkAt_no(kid:Int): ∀(l:List(Int×Int))(b:Nat)(o:Int),(o<0∨(l.length:Int)<=o)->Dd.linkAt kid l b o= -1
 | [],_,_,_=>rfl
 |x::r,b,o,h=>by
  have hl:((x::r).length:Int)=r.length+1:=by simp
  rw [Dd.linkAt]
  by_cases e:x.1=kid
  ·rw [if_pos e,if_neg(by omega)]
   exact Dd.linkAt_no kid r(b+1)(o-1)(by omega)
  rw [if_neg e];exact Dd.linkAt_no kid r(b+1)o(by omega)
theorem Dd.wrap_pred(o:Int)(h0: -9223372036854775808<=o)(h1:o<=9223372036854775807):(-9223372036854775808<=IntKind.i64.wrap(o-1)/\IntKind.i64.wrap(o-1)<=9223372036854775807)/\(IntKind.i64.wrap(o-1)=o-1∨(o-1<0/\1000<=IntKind.i64.wrap(o-1))):=by
 by_cases h:o= -9223372036854775808
 ·subst h;refine⟨by decide, .inr⟨by decide,by decide⟩⟩
 rw [Go.IntWalk.i64_in _(by omega)];omega
theorem Tryz.linkAt_any(x0 x1 x2 x3 x4 x5 x6 x7 x8 x10 x11:Value)(la:Option Addr)(m lc:Nat)(ls:List(Int×Int))(kid out:Int)(w:World)(hL:Ac.Lks w w.heap.size la ls)(hm:ls.length=m)(h40:m<=40)(ho0: -9223372036854775808<=out)(ho1:out<=9223372036854775807):
  Calls Tryz.prog 37 #[.agg #[x0,x1,x2,x3,x4,x5,x6,x7,x8, .slice la m lc,x10,x11], .int .i64 kid, .int .i64 out]w λe w'=>e= .returned(.int .i64(Dd.linkAt kid ls 0 out))/\Below w.heap.size w w':=by
 obtain⟨R,hR⟩: ∃R,Dd.linkAt kid ls 0 out=R:=⟨_,rfl⟩;rw [hR];obtain⟨w1,hw1⟩: ∃z,w.alloc(.cells #[x0,x1,x2,x3,x4,x5,x6,x7,x8, .slice la m lc,x10,x11]32)=z:=⟨_,rfl⟩;have B1:Below w.heap.size w w1:=by rw [<-hw1];exact(Below.refl _ w).alloc(Nat.le_refl _)_
 have N1:w1.heap[w.heap.size]? =some(.cells #[x0,x1,x2,x3,x4,x5,x6,x7,x8, .slice la m lc,x10,x11]32(0,0)):=by rw [<-hw1];exact heap_alloc_new w _
 have c9:w1.cell? ⟨w.heap.size,9,none⟩=some(.slice la m lc):=by simp [World.cell?,N1]
 have H1:Hid _:=hw1;have HB:Hid(Below w.heap.size w w1):=B1;have HL:Hid(Ac.Lks w w.heap.size la ls/\ls.length=m):=⟨hL,hm⟩;have HR:Hid(Dd.linkAt kid(ls.drop 0)0 out=R):=hR;have HO:Hid(-9223372036854775808<=out/\out<=9223372036854775807):=⟨ho0,ho1⟩;clear hL hm hR hw1 B1 N1 ho0 ho1
 go_enter Tryz.func37,Tryz.ntmps37
 go_upto_region 1 with fail
 rw [H1.out];go_wp2
 go_loopg [2,7,12]m(λgk s2 _ s12 wr=> ∃(j:Nat)(o:Int),gk+j=m/\s12= .int .i64 j/\s2= .int .i64 o/\Hid(Below w.heap.size w wr/\Dd.linkAt kid(ls.drop j)j o=R/\ -9223372036854775808<=o/\o<=9223372036854775807))
 case atStart=>exact⟨0,out,by omega,rfl,rfl,HB.out,HR.out,HO.out⟩
 case round=>
  obtain⟨j,o,hj,rfl,rfl,HJ⟩:=hrel;clear c9
  by_cases hlt:j<m
  rotate_left
  ·have hd:decide((j:Int)<m)=false:=decide_eq_false(by omega)
   have HQ:Hid(R= -1):=by
    have h1:=HJ.out.2.1;rw [List.drop_eq_nil_of_le(by rw [HL.out.2];omega)]at h1;exact h1.symm
   go_wp2;go_ret;exact⟨by rw [HQ.out];rfl,HJ.out.1⟩
  have hd:decide((j:Int)<m)=true:=decide_eq_true(by omega);have hjl:j<ls.length:=by rw [HL.out.2];exact hlt
  obtain⟨q,off,rfl,hq,d0,d1⟩:=HL.out.1 j hjl;obtain⟨x,hx⟩: ∃x,ls[j]=x:=⟨_,rfl⟩;obtain⟨a,b⟩:=x;rw [hx]at d0 d1;have j0:(0:Int)<=j:=by omega
  have j1:(j:Int)<m:=by omega
  have e0:wr.cell? ⟨q,off+j*2,none⟩=some(.int .i64 a):=by rw [HJ.out.1.cell(p:=⟨q,off+j*2,none⟩)hq];exact d0
  have e1:wr.cell? ⟨q,off+j*2+1,none⟩=some(.int .i64 b):=by rw [HJ.out.1.cell(p:=⟨q,off+j*2+1,none⟩)hq];exact d1
  obtain⟨w2,hw2⟩: ∃z,wr.alloc(.cells #[.int .i64 a, .int .i64 b]80)=z:=⟨_,rfl⟩;have B2:Below wr.heap.size wr w2:=by rw [<-hw2];exact(Below.refl _ wr).alloc(Nat.le_refl _)_
  have HB2:Hid(Below w.heap.size w w2):=HJ.out.1.trans(B2.mono HJ.out.1.size);have N2:w2.heap[wr.heap.size]? =some(.cells #[.int .i64 a, .int .i64 b]80(0,0)):=by rw [<-hw2];exact heap_alloc_new wr _
  have k0:w2.cell? ⟨wr.heap.size,0,none⟩=some(.int .i64 a):=by simp [World.cell?,N2]
  have HS:Hid(R=if a=kid then(if o=0 then(j:Int)else Dd.linkAt kid(ls.drop(j+1))(j+1)(o-1))else Dd.linkAt kid(ls.drop(j+1))(j+1)o):=by
   have h1:=HJ.out.2.1;rw [List.drop_eq_getElem_cons hjl,hx,Dd.linkAt]at h1;exact h1.symm
  have HO2:Hid(-9223372036854775808<=o/\o<=9223372036854775807/\(ls.drop(j+1)).length<=40):=⟨HJ.out.2.2.1,HJ.out.2.2.2,by rw [List.length_drop,HL.out.2];omega⟩;have HW2:Hid _:=hw2;clear d0 d1 hx hjl hq hw2 B2 N2 HJ
  by_cases ha:a=kid
  rotate_left
  ·have he:(a !=kid)=true:=by simpa using ha
   have HQ:Hid(Dd.linkAt kid(ls.drop(j+1))(j+1)o=R):=by
    have h1:=HS.out;rw [if_neg ha]at h1;exact h1.symm
   clear ha
   go_upto_region 4 with fail
   rw [HW2.out];go_wp2;go_roundg(gk-1)
   case measure=>omega
   case rel=>exact⟨j+1,o,by omega,by go_num,rfl,HB2.out,HQ.out,HO2.out.1,HO2.out.2.1⟩
  have he:(a !=kid)=false:=by simp [ha]
  by_cases h0:o=0
  ·have he2:(o==0)=true:=by simp [h0]
   have HQ:Hid(R=j):=by
    have h1:=HS.out;rw [if_pos ha,if_pos h0]at h1;exact h1
   clear ha h0
   go_upto_region 4 with fail
   rw [HW2.out];go_wp2;go_ret;exact⟨by rw [HQ.out];rfl,HB2.out⟩
  have he2:(o==0)=false:=by simpa using h0
  obtain⟨o',ho'⟩: ∃z,IntKind.i64.wrap(o-1)=z:=⟨_,rfl⟩
  have HQ:Hid(Dd.linkAt kid(ls.drop(j+1))(j+1)o'=R/\ -9223372036854775808<=o'/\o'<=9223372036854775807):=by
   have h1:=HS.out;rw [if_pos ha,if_neg h0]at h1;obtain⟨h2,h3⟩:=Dd.wrap_pred o HO2.out.1 HO2.out.2.1;rw [ho']at h2 h3;refine⟨?_,h2⟩
   rcases h3 with h3|h3
   ·rw [h1,h3]
   rw [h1,Dd.linkAt_no kid _ _ o'(.inr(by have:=HO2.out.2.2;omega)),Dd.linkAt_no kid _ _(o-1)(.inl h3.1)]
  clear ha h0
  go_upto_region 4 with fail
  rw [HW2.out];go_wp2
  try rw [ho']
  go_roundg(gk-1)
  case measure=>omega
  case rel=>exact⟨j+1,o',by omega,by go_num,by first|rfl|rw [ho'],HB2.out,HQ.out⟩
theorem Tryz.deadRuns_any(x0 x1 x2 x3 x4 x5 x6 x7 x9 x10 x11:Value)(ka:Option Addr)(n kc:Nat)(l:List Int)(kid:Int)(w:World)(hl:l.length=104)(h64:n<=64):
  Calls Tryz.prog 32 #[.agg #[x0,x1,x2,x3,x4,x5,x6,x7, .slice ka n kc,x9,x10,x11], .agg(Dd.row l), .int .i64 kid]w λe w'=>e= .returned(.bool(Dd.runsB n l kid))/\Below w.heap.size w w':=by
 obtain⟨R,hR⟩: ∃R,Dd.runsB n l kid=R:=⟨_,rfl⟩;rw [hR];obtain⟨w1,hw1⟩: ∃z,(w.alloc(.cells #[x0,x1,x2,x3,x4,x5,x6,x7, .slice ka n kc,x9,x10,x11]32)).alloc(.cells(Dd.row l)41)=z:=⟨_,rfl⟩;have h0:Dd.Bx(w.alloc(.cells #[x0,x1,x2,x3,x4,x5,x6,x7, .slice ka n kc,x9,x10,x11]32))w.heap.size #[x0,x1,x2,x3,x4,x5,x6,x7, .slice ka n kc,x9,x10,x11]:=heap_alloc_new w _;have h1:=Dd.At.new(w.alloc(.cells #[x0,x1,x2,x3,x4,x5,x6,x7, .slice ka n kc,x9,x10,x11]32))hl;rw [show(w.alloc(.cells #[x0,x1,x2,x3,x4,x5,x6,x7, .slice ka n kc,x9,x10,x11]32)).heap.size=w.heap.size+1 by simp,hw1]at h1;have h2:Dd.Bx w1 w.heap.size #[x0,x1,x2,x3,x4,x5,x6,x7, .slice ka n kc,x9,x10,x11]:=by rw [<-hw1];exact h0.keep(Below.heap_alloc _ _ _ h0.lt)
 have B1:Below w.heap.size w w1:=by rw [<-hw1];exact((Below.refl _ w).alloc(Nat.le_refl _)_).alloc(by simp)_
 have c8:w1.cell? ⟨w.heap.size,8,none⟩=some(.slice ka n kc):=by unfold Dd.Bx at h2;simp [World.cell?,h2]
 have H1:Hid _:=hw1;have HB:Hid(Below w.heap.size w w1):=B1;have HR:Hid((decide(0<=kid)&&decide(kid<n)&&decide(l.getD(40+kid.toNat)0=1))=R):=hR
 by_cases hk0:0<=kid
 rotate_left
 ·have d0:decide(0<=kid)=false:=decide_eq_false hk0
  have HQ:Hid(R=false):=by
   have h:=HR.out;rw [d0]at h;exact h.symm
  clear hR hw1 h0 h1 h2 B1 hk0
  go_enter Tryz.func32,Tryz.ntmps32
  go_upto_region 1 with fail
  rw [H1.out];go_wp2;go_ret;exact⟨by rw [HQ.out];rfl,HB.out⟩
 have d0:decide(0<=kid)=true:=decide_eq_true hk0
 by_cases hkn:kid<n
 rotate_left
 ·have d1:decide(kid<(n:Int))=false:=decide_eq_false hkn
  have HQ:Hid(R=false):=by
   have h:=HR.out;rw [d0,d1]at h;exact h.symm
  clear hR hw1 h0 h1 h2 B1 hkn
  go_enter Tryz.func32,Tryz.ntmps32
  go_upto_region 1 with fail
  rw [H1.out];go_wp2;go_ret;exact⟨by rw [HQ.out];rfl,HB.out⟩
 have d1:decide(kid<(n:Int))=true:=decide_eq_true hkn;obtain⟨k,rfl⟩: ∃k:Nat,kid=k:=⟨kid.toNat,by omega⟩;obtain⟨v,hv⟩: ∃v,l.getD(40+k)0=v:=⟨_,rfl⟩;have s1:=h1.cell(40+k)(by omega);rw [hv]at s1;have k64:(k:Int)<64:=by omega
 have hkn':k<n:=by omega
 by_cases h1v:v=1
 ·have e1:(v==1)=true:=by simp [h1v]
  have HQ:Hid(R=true):=by
   have h:=HR.out;rw [d0,d1,show((k:Int)).toNat=k by omega,hv,decide_eq_true h1v]at h;exact h.symm
  clear h1v hR hw1 h0 h1 h2 B1 hv hkn
  go_enter Tryz.func32,Tryz.ntmps32
  go_upto_region 1 with fail
  rw [H1.out];go_wp2;go_ret;exact⟨by rw [HQ.out];rfl,HB.out⟩
 have e1:(v==1)=false:=by simpa using h1v
 have HQ:Hid(R=false):=by
  have h:=HR.out;rw [d0,d1,show((k:Int)).toNat=k by omega,hv,decide_eq_false h1v]at h;exact h.symm
 clear h1v hR hw1 h0 h1 h2 B1 hv hkn
 go_enter Tryz.func32,Tryz.ntmps32
 go_upto_region 1 with fail
 rw [H1.out];go_wp2;go_ret;exact⟨by rw [HQ.out];rfl,HB.out⟩
def Dd.checkI(wb:Bool)(n m:Nat)(l:List Int):Int:=if wb=true then(if Dd.okB n m l=true then 0 else 1)else 4
theorem Tryz.deadCheck_any(x0 x1 x2 x3 x4 x5 x6 x7 x10 x11:Value)(ka la:Option Addr)(n kc m lc:Nat)(l:List Int)(wb:Bool)(w:World)(hl:l.length=104)(h40:wb=true->m<=40/\n<=64)(CW0: ∀W,Below w.heap.size w W->Calls Tryz.prog 26 #[.agg #[x0,x1,x2,x3,x4,x5,x6,x7, .slice ka n kc, .slice la m lc,x10,x11]]W λe w'=>e= .returned(.bool wb)/\Below W.heap.size W w'):
  Calls Tryz.prog 19 #[.agg #[x0,x1,x2,x3,x4,x5,x6,x7, .slice ka n kc, .slice la m lc,x10,x11], .agg(Dd.row l)]w λe w'=>e= .returned(.int .i64(Dd.checkI wb n m l))/\Below w.heap.size w w':=by
 obtain⟨R,hR⟩: ∃R,Dd.checkI wb n m l=R:=⟨_,rfl⟩;rw [hR];obtain⟨w1,hw1⟩: ∃z,(w.alloc(.cells #[x0,x1,x2,x3,x4,x5,x6,x7, .slice ka n kc, .slice la m lc,x10,x11]32)).alloc(.cells(Dd.row l)41)=z:=⟨_,rfl⟩;have h0:Dd.Bx(w.alloc(.cells #[x0,x1,x2,x3,x4,x5,x6,x7, .slice ka n kc, .slice la m lc,x10,x11]32))w.heap.size #[x0,x1,x2,x3,x4,x5,x6,x7, .slice ka n kc, .slice la m lc,x10,x11]:=heap_alloc_new w _;have h1:=Dd.At.new(w.alloc(.cells #[x0,x1,x2,x3,x4,x5,x6,x7, .slice ka n kc, .slice la m lc,x10,x11]32))hl;rw [show(w.alloc(.cells #[x0,x1,x2,x3,x4,x5,x6,x7, .slice ka n kc, .slice la m lc,x10,x11]32)).heap.size=w.heap.size+1 by simp,hw1]at h1;have h2:Dd.Bx w1 w.heap.size #[x0,x1,x2,x3,x4,x5,x6,x7, .slice ka n kc, .slice la m lc,x10,x11]:=by rw [<-hw1];exact h0.keep(Below.heap_alloc _ _ _ h0.lt)
 have B1:Below w.heap.size w w1:=by rw [<-hw1];exact((Below.refl _ w).alloc(Nat.le_refl _)_).alloc(by simp)_
 have HB1:Hid(Below w.heap.size w w1):=B1;have CW:Hid _:=CW0 w1 B1;have HF:Hid(∀W,Below w1.heap.size w1 W->Dd.Bx W w.heap.size #[x0,x1,x2,x3,x4,x5,x6,x7, .slice ka n kc, .slice la m lc,x10,x11]/\Dd.At W(w.heap.size+1)l/\Below w.heap.size w W):=λW hb=>⟨h2.below hb h2.lt,h1.below hb h1.lt,B1.trans(hb.mono B1.size)⟩;have H1:Hid _:=hw1;have NA:=h2;unfold Dd.Bx at NA;have ha:=Tryz.underlying32;have ia:(Tryz.prog.info? 32).map(·.size)=some(#[x0,x1,x2,x3,x4,x5,x6,x7, .slice ka n kc, .slice la m lc,x10,x11]:Array Value).size:=Dd.info_act;clear hw1 h0 h1 h2 B1 CW0
 cases wb with
 |false=>
  have HR:Hid(R=4):=hR.symm;clear hR hl h40
  go_enter Tryz.func19,Tryz.ntmps19
  go_upto_region 1 with fail
  rw [H1.out]
  go_wp2_with(refine wpList_load_row rfl 32 _ rfl _ rfl 32 _(0,0)_ NA ha rfl ia ?_)
  refine Calls.mono CW.out ?_;rintro e W2⟨rfl,hb2⟩;have HB:Hid(Below w.heap.size w W2):=HB1.out.trans(hb2.mono HB1.out.size);clear hb2 CW HF NA;go_wp2;go_ret;exact⟨by rw [HR.out];rfl,HB.out⟩
 |true=>
 obtain⟨m40,n64⟩:=h40 rfl;obtain⟨r1,hr1⟩: ∃z,(Gm.heldB((l.take 40).take m)2&&Gm.heldB((l.take 40).drop m)0)=z:=⟨_,rfl⟩;obtain⟨r2,hr2⟩: ∃z,(Gm.heldB((l.drop 40).take n)3&&Gm.heldB((l.drop 40).drop n)0)=z:=⟨_,rfl⟩
 have HR:Hid(R=if(r1&&r2)=true then 0 else 1):=by
  show _=_;rw [<-hR,<-hr1,<-hr2];rfl
 have e40:(l.take 40).length=40:=by simp;omega
 have e64:(l.drop 40).length=64:=by simp;omega
 have HA:Hid(∀W,Dd.At W(w.heap.size+1)l->Calls Tryz.prog 34 #[.slice(some⟨w.heap.size+1,0,none⟩)40 40, .int .i64 m, .int .i64 2]W λe w'=>e= .returned(.bool r1)/\w'=W):=λW hA=>by
  have h:=Tryz.filled_any(w.heap.size+1)0(l.take 40)m 2 W(λj hj=>by
   rw [e40]at hj;rw [Nat.zero_add,hA.cell j(by omega),List.getElem_take]
   congr 2
   simp [List.getD_eq_getElem?_getD,show j<l.length by omega])(by omega)(by omega)
  rw [e40,hr1]at h;exact h
 have HK:Hid(∀W,Dd.At W(w.heap.size+1)l->Calls Tryz.prog 34 #[.slice(some⟨w.heap.size+1,40,none⟩)64 64, .int .i64 n, .int .i64 3]W λe w'=>e= .returned(.bool r2)/\w'=W):=λW hA=>by
  have h:=Tryz.filled_any(w.heap.size+1)40(l.drop 40)n 3 W(λj hj=>by
   rw [e64]at hj;rw [hA.cell(40+j)(by omega),List.getElem_drop]
   congr 2
   simp [List.getD_eq_getElem?_getD,show 40+j<l.length by omega])(by omega)(by omega)
  rw [e64,hr2]at h;exact h
 have q0:(0:Int)<=m:=by omega
 have q1:(0:Int)<=n:=by omega
 clear hR hr1 hr2 e40 e64 hl h40
 go_enter Tryz.func19,Tryz.ntmps19
 go_upto_region 1 with fail
 rw [H1.out]
 go_wp2_with(refine wpList_load_row rfl 32 _ rfl _ rfl 32 _(0,0)_ NA ha rfl ia ?_)
 refine Calls.mono CW.out ?_;rintro e W2⟨rfl,hb2⟩;obtain⟨h2,h1,HB⟩:=HF.out W2 hb2;have HB:Hid(Below w.heap.size w W2):=HB;have hbx:W2.heap[w.heap.size]? =some(.cells #[x0,x1,x2,x3,x4,x5,x6,x7, .slice ka n kc, .slice la m lc,x10,x11]32(0,0)):=h2;have c8:W2.cell? ⟨w.heap.size,8,none⟩=some(.slice ka n kc):=by simp [World.cell?,hbx]
 have c9:W2.cell? ⟨w.heap.size,9,none⟩=some(.slice la m lc):=by simp [World.cell?,hbx]
 have CA: ∀nq,Calls Tryz.prog 34 #[.slice(some⟨w.heap.size+1,0,none⟩)40 40, .int .i64 m, .int .i64 2](W2.drewN nq)λe w'=>e= .returned(.bool r1)/\w'=W2.drewN nq:=λnq=>HA.out _(h1.keep rfl);have CK: ∀nq,Calls Tryz.prog 34 #[.slice(some⟨w.heap.size+1,40,none⟩)64 64, .int .i64 n, .int .i64 3](W2.drewN nq)λe w'=>e= .returned(.bool r2)/\w'=W2.drewN nq:=λnq=>HK.out _(h1.keep rfl);have hst:W2.heap[w.heap.size+1]? =some(.cells(Dd.row l)41(0,0)):=h1.h;clear hb2 CW HF NA h2 hbx HA HK h1;have HCA:Hid _:=CA;have HCK:Hid _:=CK;clear CA CK;have HW2:Hid(∀nq,Below w.heap.size w(W2.drewN nq)):=λnq=>HB.out.trans⟨rfl,rfl,rfl,Nat.le_refl _,λ_ _=>rfl⟩
 cases r1 with
 |false=>
  have HQ:Hid(R=1):=by rw [HR.out];rfl
  go_wp2_with fail
  go_quiet(first|(go_at_call 34;with_reducible refine Calls.quiet_of_same(HCA.out _)))
  go_wp2;go_ret;exact⟨by rw [HQ.out];rfl,HW2.out _⟩
 |true=>
  cases r2 with
  |false=>
   have HQ:Hid(R=1):=by rw [HR.out];rfl
   go_wp2_with fail
   go_quiet(first|(go_at_call 34;with_reducible refine Calls.quiet_of_same(HCA.out _))|(go_at_call 34;with_reducible refine Calls.quiet_of_same(HCK.out _)))
   go_wp2;go_ret;exact⟨by rw [HQ.out];rfl,HW2.out _⟩
  |true=>
   have HQ:Hid(R=0):=by rw [HR.out];rfl
   go_wp2_with fail
   go_quiet(first|(go_at_call 34;with_reducible refine Calls.quiet_of_same(HCA.out _))|(go_at_call 34;with_reducible refine Calls.quiet_of_same(HCK.out _)))
   go_wp2;go_ret;exact⟨by rw [HQ.out];rfl,HW2.out _⟩
end Go.Proofs
namespace Go.Proofs
open Go
theorem Nt.put_some(ts:List Value)(ds:List Deferred)(d:Tmp)(v:Value):Act.put⟨ts.toArray,ds⟩(some d)v=⟨(ts.set d v).toArray,ds⟩:=by
 simp [Act.put]
theorem Nt.takeS {P:Program} {md:Region.Mode} {ops:Array Oper} {Q:Exit->Act->World->Prop} {S:World->Prop} (i:Nat) {oi:Oper} {v:Value} {fuel:Nat} {listed:Array Bool} {ts:List Value} {ds:List Deferred} {w:World} (d:Tmp)(hi:ops[i]? =some oi)(hd:oi.dst=some d)
  (hs:Region.noSelect ops=true)(hf:Region.free md ops listed i=true)(hr:(Region.ready md ops listed).contains i=true)
  (hQ: ∀c a w,Q(.panic c)(a.put oi.dst v)w->Q(.panic c)a w)(hy:YieldsIf P ops S oi v⟨ts.toArray,ds⟩)(hS:S w)
  (h:wpAnyH P md ops Q S fuel(listed.setIfInBounds i true)⟨(ts.set d v).toArray,ds⟩w):wpAnyH P md ops Q S(fuel+1)listed⟨ts.toArray,ds⟩w:=
 wpAnyH_take hi hs hf hr hQ hy hS(by rw [hd,Nt.put_some];exact h)
end Go.Proofs
