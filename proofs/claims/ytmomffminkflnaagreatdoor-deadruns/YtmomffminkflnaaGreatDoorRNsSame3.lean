import Derived.Test.YtmomffminkflnaaGreatDoorRNsSame
import Derived.Test.YtmomffminkflnaaGreatDoorRAcGo
import Derived.Deep.Slices
set_option maxRecDepth 100000
set_option maxHeartbeats 32000000
namespace Go.Proofs
open Go.RowKit Go.Shelf
theorem Tryz.nestSame_any (d d' B:Nat)(S T:Tm)(u v:Value)(w:World)(hS:Tm.Lies w B d u S)(hT:Tm.Lies w B d' v T)(hB:0<B)(hBs:B<=w.heap.size)(hsz:S.size<=2147483647)(hdp:S.depth<=1000):
  Calls Tryz.prog 102 #[.agg #[.func (.func 126) #[] #[],.int .i64 1000,.int .i64 2147483647],.agg #[.int .i64 S.op,.int .i64 S.num,u],.agg #[.int .i64 T.op,.int .i64 T.num,v],.func (.func 104) #[] #[]] w λe w'=>
   (∃r,e=.returned (.bool r)/\(r=true↔S=T))/\Below w.heap.size w w':=by
 obtain⟨a,ca,rfl⟩:=hS.shape;obtain⟨b,cb,rfl⟩:=hT.shape;obtain⟨x0,hx0⟩:=pE (S.op);obtain⟨x1,hx1⟩:=pE (S.num);obtain⟨y0,hy0⟩:=pE (T.op);obtain⟨y1,hy1⟩:=pE (T.num);obtain⟨n,hn⟩:=pE (S.ks.length);obtain⟨m,hm⟩:=pE (T.ks.length);rw[hx0,hx1,hy0,hy1,hn,hm];rw[hn]at hS;rw[hm]at hT;obtain⟨w1,hw1⟩:=pE (((w.alloc (.cells #[.func (.func 126) #[] #[],.int .i64 1000,.int .i64 2147483647] 162)).alloc (.cells #[.int .i64 x0,.int .i64 x1,.slice a n ca] 24)).alloc (.cells #[.int .i64 y0,.int .i64 y1,.slice b m cb] 24));have A1:Below w.heap.size w w1:=by rw[<-hw1];exact(((Below.refl _ w).alloc (Nat.le_refl _) _).alloc (by simp) _).alloc (by simp;omega) _
 have hWy:Tk.Wy w.heap.size 1000 2147483647 w1:=by
  rw[<-hw1];exact Tk.Wy.keep (Tk.Wy.keep (heap_alloc_new w _) (Below.heap_alloc _ _ _ (by simp))) (Below.heap_alloc _ _ _ (by simp;omega))
 have hcall:=Tryz.same_any 1000 w.heap.size B hB hBs d d' 1000 S T (.slice a n ca) (.slice b m cb) 2147483647 w1 (hS.below (A1.mono hBs)) (hT.below (A1.mono hBs)) (Nat.le_trans hBs A1.size) hWy hsz (Nat.le_refl _) hdp (Nat.le_refl _);rw[hx0,hx1,hy0,hy1]at hcall;have HC:Hid _:=hcall;have HA:Hid (Below w.heap.size w w1):=A1;have H1:Hid (((w.alloc (.cells #[.func (.func 126) #[] #[],.int .i64 1000,.int .i64 2147483647] 162)).alloc (.cells #[.int .i64 x0,.int .i64 x1,.slice a n ca] 24)).alloc (.cells #[.int .i64 y0,.int .i64 y1,.slice b m cb] 24)=w1):=hw1;clear hcall A1 hS hT hx0 hx1 hy0 hy1 hn hm hw1 hWy
 go_enter Tryz.func102,Tryz.ntmps102
 go_wp2_with fail
 rw[H1.out];refine Calls.mono HC.out ?_;rintro e W1 ⟨r,rfl,hr,hb,-⟩;have X:Hid ((r=true↔S=T)/\Below w.heap.size w W1):=⟨hr,HA.out.trans (hb.below HA.out.size (λk hk=>by omega))⟩;clear hb hr;go_wp2;go_ret;exact⟨⟨r,rfl,X.out.1⟩,X.out.2⟩
theorem Tryz.termSame_any (d d':Nat)(S T:Tm)(u v:Value)(w:World)(hS:Tm.Lies w w.heap.size d u S)(hT:Tm.Lies w w.heap.size d' v T)(h0:0<w.heap.size)(hsz:S.size<=2147483647)(hdp:S.depth<=1000):
  Calls Tryz.prog 77 #[.agg #[.int .i64 S.op,.int .i64 S.num,u],.agg #[.int .i64 T.op,.int .i64 T.num,v]] w λe w'=>
   (∃r,e=.returned (.bool r)/\(r=true↔S=T))/\Below w.heap.size w w':=by
 obtain⟨a,ca,rfl⟩:=hS.shape;obtain⟨b,cb,rfl⟩:=hT.shape;obtain⟨x0,hx0⟩:=pE (S.op);obtain⟨x1,hx1⟩:=pE (S.num);obtain⟨y0,hy0⟩:=pE (T.op);obtain⟨y1,hy1⟩:=pE (T.num);obtain⟨n,hn⟩:=pE (S.ks.length);obtain⟨m,hm⟩:=pE (T.ks.length);rw[hx0,hx1,hy0,hy1,hn,hm];rw[hn]at hS;rw[hm]at hT;obtain⟨w1,hw1⟩:=pE ((w.alloc (.cells #[.int .i64 x0,.int .i64 x1,.slice a n ca] 24)).alloc (.cells #[.int .i64 y0,.int .i64 y1,.slice b m cb] 24));have hs1:w1.heap.size=w.heap.size+2:=by rw[<-hw1];simp
 have A1:Below w.heap.size w w1:=by rw[<-hw1];exact((Below.refl _ w).alloc (Nat.le_refl _) _).alloc (by simp) _
 have C0:w1.heap[w.heap.size]? =some (.cells #[.int .i64 x0,.int .i64 x1,.slice a n ca] 24 (0,0)):=by rw[<-hw1,Below.heap_alloc _ _ _ (by simp)];exact heap_alloc_new w _
 have C1:w1.heap[w.heap.size+1]? =some (.cells #[.int .i64 y0,.int .i64 y1,.slice b m cb] 24 (0,0)):=by
  rw[<-hw1];have:=heap_alloc_new (w.alloc (.cells #[.int .i64 x0,.int .i64 x1,.slice a n ca] 24)) (.cells #[.int .i64 y0,.int .i64 y1,.slice b m cb] 24);simpa using this
 have CF:Hid (∀W,Below w1.heap.size w1 W->W.cell? ⟨w.heap.size,0,none⟩=some (.int .i64 x0)/\W.cell? ⟨w.heap.size,1,none⟩=some (.int .i64 x1)/\W.cell? ⟨w.heap.size,2,none⟩=some (.slice a n ca)/\W.cell? ⟨w.heap.size+1,0,none⟩=some (.int .i64 y0)/\W.cell? ⟨w.heap.size+1,1,none⟩=some (.int .i64 y1)/\W.cell? ⟨w.heap.size+1,2,none⟩=some (.slice b m cb)):=λW hb=>by
  have e1:=(hb.block w.heap.size (by omega)).trans C0;have e2:=(hb.block (w.heap.size+1) (by omega)).trans C1;exact⟨by simp[World.cell?,e1],by simp[World.cell?,e1],by simp[World.cell?,e1],by simp[World.cell?,e2],by simp[World.cell?,e2],by simp[World.cell?,e2]⟩
 have CW:Hid (∀W,Below w1.heap.size w1 W->Calls Tryz.prog 103 #[.int .i64 1000] W λe w'=>e=.returned (.agg #[.func (.func 126) #[] #[],.int .i64 1000,.int .i64 2147483647])/\Hid (Below w1.heap.size w1 w')):=λW hb=>
  (Tryz.way_any 1000 W).mono λ_ w' h=>⟨h.1,hb.trans (h.2.mono hb.size)⟩
 have CT:Hid (∀W,Below w1.heap.size w1 W->Calls Tryz.prog 102 #[.agg #[.func (.func 126) #[] #[],.int .i64 1000,.int .i64 2147483647],.agg #[.int .i64 x0,.int .i64 x1,.slice a n ca],.agg #[.int .i64 y0,.int .i64 y1,.slice b m cb],.func (.func 104) #[] #[]] W λe w'=>
   ∃r,e=.returned (.bool r)/\Hid ((r=true↔S=T)/\Below w1.heap.size w1 w')):=λW hb=>by
  have h:=Tryz.nestSame_any d d' w.heap.size S T (.slice a n ca) (.slice b m cb) W ((hS.below A1).below (hb.mono (by omega))) ((hT.below A1).below (hb.mono (by omega))) h0 (by have:=hb.size;omega) hsz hdp;rw[hx0,hx1,hy0,hy1]at h
  exact h.mono λ_ w' h=>by
   obtain⟨⟨r,he,hr⟩,hb'⟩:=h;exact⟨r,he,hr,hb.trans (hb'.mono hb.size)⟩
 have H1:Hid ((w.alloc (.cells #[.int .i64 x0,.int .i64 x1,.slice a n ca] 24)).alloc (.cells #[.int .i64 y0,.int .i64 y1,.slice b m cb] 24)=w1):=hw1;have HA:Hid (Below w.heap.size w w1/\w.heap.size<=w1.heap.size):=⟨A1,by omega⟩;have BR:Hid (Below w1.heap.size w1 w1):=Below.refl _ _;clear A1 hS hT hx0 hx1 hy0 hy1 hn hm hw1 C0 C1 hs1
 go_enter Tryz.func77,Tryz.ntmps77
 go_upto_region 1 with fail
 rw[H1.out]
 go_region_held3 (λW=>W.cell? ⟨w.heap.size,0,none⟩=some (.int .i64 x0)/\W.cell? ⟨w.heap.size,1,none⟩=some (.int .i64 x1)/\W.cell? ⟨w.heap.size,2,none⟩=some (.slice a n ca)/\W.cell? ⟨w.heap.size+1,0,none⟩=some (.int .i64 y0)/\W.cell? ⟨w.heap.size+1,1,none⟩=some (.int .i64 y1)/\W.cell? ⟨w.heap.size+1,2,none⟩=some (.slice b m cb))
  (first|exact CF.out _ H4.out.2|exact CF.out _ B3.out|exact CF.out _ BR.out.drew|exact CF.out _ BR.out)
  (first
  |(go_simp;go_at_call 103;refine Calls.mono (CW.out _ ?_) ?_;(first|exact BR.out|exact BR.out.drew|exact Tk.below_drewN BR.out _);rintro e W3 ⟨rfl,B3⟩)
  |(go_simp;go_at_call 102;refine Calls.mono (CT.out _ ?_) ?_;(first|exact B3.out|exact B3.out.drew|exact Tk.below_drewN B3.out _);rintro e W4 ⟨r,rfl,H4⟩))
 all_goals
  clear CW CT BR;go_simp;go_wp2;go_ret;exact⟨⟨r,rfl,H4.out.1⟩,HA.out.1.trans (H4.out.2.mono HA.out.2)⟩
def Dd.ints (l:List Int):List Value:=l.map λn=> .int .i64 n
def Dd.row (l:List Int):Array Value:=(Dd.ints l).toArray
theorem Dd.row_size (l:List Int):(Dd.row l).size=l.length:=by simp[Dd.row,Dd.ints]
theorem Dd.row_get {l:List Int}{i:Nat}(h:i<l.length):(Dd.row l)[i]? =some (.int .i64 (l.getD i 0)):=by
 simp[Dd.row,Dd.ints,List.getElem?_map,List.getElem?_eq_getElem h,List.getD_eq_getElem?_getD]
theorem Dd.row_set (l:List Int)(i:Nat)(x:Int):(Dd.row l).setIfInBounds i (.int .i64 x)=Dd.row (l.set i x):=by simp[Dd.row,Dd.ints,List.map_set]
theorem Dd.row_one (l:List Int):(Dd.row l).all (·.oneCell')=true:=by
 rw[Array.all_eq_true];intro i hi;simp[Dd.row,Dd.ints,Value.oneCell']
theorem Dd.zero_row:Tryz.zeroCells41=Dd.row Dd.zeros:=by kernel_rfl
theorem Dd.zeros_length:Dd.zeros.length=104:=by simp[Dd.zeros]
theorem Dd.info:(Tryz.prog.info? 41).map (·.size)=some 104:=by kernel_rfl
theorem Dd.info_row {l:List Int}(h:l.length=104):(Tryz.prog.info? 41).map (·.size)=some (Dd.row l).size:=by rw[Dd.row_size,h];exact Dd.info
structure Dd.At (W:World)(g:Nat)(l:List Int):Prop where
 h:W.heap[g]? =some (.cells (Dd.row l) 41 (0,0))
 len:l.length=104
theorem Dd.At.lt {W:World}{g:Nat}{l:List Int}(h:Dd.At W g l):g<W.heap.size:=(Array.getElem?_eq_some_iff.1 h.h).1
theorem Dd.At.cell {W:World}{g:Nat}{l:List Int}(h:Dd.At W g l)(i:Nat)(hi:i<104):W.cell? ⟨g,i,none⟩=some (.int .i64 (l.getD i 0)):=by
 have h1:=h.h;simp only[World.cell?,h1];rw[Dd.row_get (by rw[h.len];exact hi)];rfl
theorem Dd.At.frozen {W:World}{g:Nat}{l:List Int}(h:Dd.At W g l)(i:Nat):W.frozen? ⟨g,i,none⟩=false:=by
 have h1:=h.h;simp[World.frozen?,h1]
theorem Dd.At.put {W:World}{g:Nat}{l:List Int}(h:Dd.At W g l)(i:Nat)(x:Int):Dd.At (W.setCell ⟨g,i,none⟩ (.int .i64 x)) g (l.set i x):=by
 refine⟨?_,by rw[List.length_set];exact h.len⟩;have h1:=h.h;rw[<-Dd.row_set];simp[World.setCell,Array.getElem?_modify,h1]
theorem Dd.At.keep {W W':World}{g:Nat}{l:List Int}(h:Dd.At W g l)(hk:W'.heap[g]? =W.heap[g]?):Dd.At W' g l:=⟨hk.trans h.h,h.len⟩
theorem Dd.At.below {W W':World}{g B:Nat}{l:List Int}(h:Dd.At W g l)(hb:Below B W W')(hg:g<B):Dd.At W' g l:=h.keep (hb.block g hg)
theorem Dd.At.new (W:World){l:List Int}(h:l.length=104):Dd.At (W.alloc (.cells (Dd.row l) 41)) W.heap.size l:=⟨heap_alloc_new W _,h⟩
theorem Dd.At.setRow {W:World}{g:Nat}{l:List Int}(h:Dd.At W g l){t:List Int}(ht:t.length=104):Dd.At (W.setRow g (Dd.row t)) g t:=⟨setRow_heap _ _ _ _ _ _ h.h,ht⟩
theorem Dd.results2 {fn:Func}{p u:Tmp}{ty:TypeId}(h:fn.results=#[.cell p ty,.tmp u])(tmps:Array Value)(w:World)(q:Nat)(cs:Array Value)
  (hp:tmps.getD p undef=.pointer (some ⟨q,0,none⟩)) (hr:(loadVar ty ⟨q,0,none⟩).run Tryz.prog w=.ok (.agg cs) w):
  (results fn tmps).run Tryz.prog w=.ok (.tuple #[.agg cs,tmps.getD u undef]) w:=by
 have hp':tmps[p]?.getD undef=.pointer (some ⟨q,0,none⟩):=by simpa using hp
 simp[results,h,hp',asAddr,hr]
def Dd.Bx (W:World)(g:Nat)(xs:Array Value):Prop:=W.heap[g]? =some (.cells xs 32 (0,0))
theorem Dd.Bx.lt {W:World}{g:Nat}{xs:Array Value}(h:Dd.Bx W g xs):g<W.heap.size:=(Array.getElem?_eq_some_iff.1 h).1
theorem Dd.Bx.below {W W':World}{g B:Nat}{xs:Array Value}(h:Dd.Bx W g xs)(hb:Below B W W')(hg:g<B):Dd.Bx W' g xs:=(hb.block g hg).trans h
theorem Dd.Bx.keep {W W':World}{g:Nat}{xs:Array Value}(h:Dd.Bx W g xs)(hk:W'.heap[g]? =W.heap[g]?):Dd.Bx W' g xs:=hk.trans h
structure Dd.Fr (w:World)(xs:Array Value)(l r:List Int)(W:World):Prop where
 bx:Dd.Bx W w.heap.size xs
 st:Dd.At W (w.heap.size+1) l
 rs:Dd.At W (w.heap.size+1+1) r
 bel:Below w.heap.size w W
theorem Dd.Fr.new (w:World)(xs:Array Value){l:List Int}(h:l.length=104):Dd.Fr w xs l Dd.zeros (((w.alloc (.cells xs 32)).alloc (.cells (Dd.row l) 41)).alloc (.cells Tryz.zeroCells41 41)):=by
 have h0:Dd.Bx (w.alloc (.cells xs 32)) w.heap.size xs:=heap_alloc_new w _;have h1:=Dd.At.new (w.alloc (.cells xs 32)) h;have h2:=Dd.At.new ((w.alloc (.cells xs 32)).alloc (.cells (Dd.row l) 41)) Dd.zeros_length;rw[Dd.zero_row];rw[show(w.alloc (.cells xs 32)).heap.size=w.heap.size+1 by simp]at h1;rw[show((w.alloc (.cells xs 32)).alloc (.cells (Dd.row l) 41)).heap.size=w.heap.size+1+1 by simp]at h2;refine⟨(h0.keep (Below.heap_alloc _ _ _ h0.lt)).keep (Below.heap_alloc _ _ _ (by simp;omega)),h1.keep (Below.heap_alloc _ _ _ h1.lt),h2, ?_⟩;exact(((Below.refl _ w).alloc (Nat.le_refl _) _).alloc (by simp) _).alloc (by simp;omega) _
theorem Dd.Fr.below {w W W':World}{xs:Array Value}{l r:List Int}(h:Dd.Fr w xs l r W)(hb:Below W.heap.size W W'):Dd.Fr w xs l r W':=
 ⟨h.bx.below hb h.bx.lt,h.st.below hb h.st.lt,h.rs.below hb h.rs.lt,h.bel.trans (hb.mono h.bel.size)⟩
theorem Dd.Fr.put {w W:World}{xs:Array Value}{l r:List Int}(h:Dd.Fr w xs l r W)(i:Nat)(x:Int):Dd.Fr w xs (l.set i x) r (W.setCell ⟨w.heap.size+1,i,none⟩ (.int .i64 x)):=
 ⟨h.bx.keep (Below.heap_setCell _ _ _ _ (by show w.heap.size≠w.heap.size+1;omega)),h.st.put i x,h.rs.keep (Below.heap_setCell _ _ _ _ (by show w.heap.size+1+1≠w.heap.size+1;omega)),h.bel.setCell (p:=⟨w.heap.size+1,i,none⟩) (by show w.heap.size<=w.heap.size+1;omega) _⟩
theorem Dd.Fr.setS {w W:World}{xs:Array Value}{l r:List Int}(h:Dd.Fr w xs l r W){t:List Int}(ht:t.length=104):Dd.Fr w xs t r (W.setRow (w.heap.size+1) (Dd.row t)):=
 ⟨h.bx.keep (setRow_other _ _ _ _ (by omega)),h.st.setRow ht,h.rs.keep (setRow_other _ _ _ _ (by omega)),Tk.below_row h.bel (by omega) _⟩
theorem Dd.Fr.setR {w W:World}{xs:Array Value}{l r:List Int}(h:Dd.Fr w xs l r W){t:List Int}(ht:t.length=104):Dd.Fr w xs l t (W.setRow (w.heap.size+1+1) (Dd.row t)):=
 ⟨h.bx.keep (setRow_other _ _ _ _ (by omega)),h.st.keep (setRow_other _ _ _ _ (by omega)),h.rs.setRow ht,Tk.below_row h.bel (by omega) _⟩
theorem Dd.Fr.cs {w W:World}{x0 x1 x2 x3 x4 x5 x6 x7 x8 x9 x10 x11:Value}{l r:List Int}(h:Dd.Fr w #[x0,x1,x2,x3,x4,x5,x6,x7,x8,x9,x10,x11] l r W):
  W.cell? ⟨w.heap.size,0,none⟩=some x0/\W.cell? ⟨w.heap.size,1,none⟩=some x1/\W.cell? ⟨w.heap.size,2,none⟩=some x2/\W.cell? ⟨w.heap.size,3,none⟩=some x3/\W.cell? ⟨w.heap.size,4,none⟩=some x4/\W.cell? ⟨w.heap.size,5,none⟩=some x5/\W.cell? ⟨w.heap.size,6,none⟩=some x6/\W.cell? ⟨w.heap.size,7,none⟩=some x7/\W.cell? ⟨w.heap.size,8,none⟩=some x8/\W.cell? ⟨w.heap.size,9,none⟩=some x9/\W.cell? ⟨w.heap.size,10,none⟩=some x10/\W.cell? ⟨w.heap.size,11,none⟩=some x11:=by
 have:=h.bx;unfold Dd.Bx at this;simp[World.cell?,this]
end Go.Proofs
