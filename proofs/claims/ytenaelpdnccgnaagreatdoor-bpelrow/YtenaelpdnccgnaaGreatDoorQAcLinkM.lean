import Derived.Test.YtenaelpdnccgnaaGreatDoorQAcPairs
import Derived.Test.YtenaelpdnccgnaaGreatDoorQRqRounds
import Derived.Great.BuildSlice
set_option maxRecDepth 100000
set_option maxHeartbeats 32000000
namespace Go.Proofs
open Go.RowKit Go.Shelf
namespace Ac
def inR (n:Nat)(l:Int×Int):Bool:=decide (-1<=l.1/\ -1<=l.2/\l.1<n/\l.2<n)
def insL (ls:List (Int×Int))(n:Nat):List Nat:=(List.range (n+1)).map λi:Nat=>ls.countP λl=>decide (l.2+1=(i:Int))
def outsL (ls:List (Int×Int))(n:Nat):List Nat:=(List.range (n+1)).map λi:Nat=>ls.countP λl=>decide (l.1+1=(i:Int))
def bet (ls:List (Int×Int)):List (Int×Int):=ls.filter λl=>decide (0<=l.1)&&decide (0<=l.2)
theorem insL_length (ls:List (Int×Int))(n:Nat):(insL ls n).length=n+1:=by simp[insL]
theorem outsL_length (ls:List (Int×Int))(n:Nat):(outsL ls n).length=n+1:=by simp[outsL]
theorem insL_at (ls:List (Int×Int))(n i:Nat)(h:i<n+1):(insL ls n)[i]? =some (ls.countP λl=>decide (l.2+1=(i:Int))):=by
 unfold insL;rw[List.getElem?_map,List.getElem?_range h];rfl
theorem outsL_at (ls:List (Int×Int))(n i:Nat)(h:i<n+1):(outsL ls n)[i]? =some (ls.countP λl=>decide (l.1+1=(i:Int))):=by
 unfold outsL;rw[List.getElem?_map,List.getElem?_range h];rfl
theorem insL_snoc (ls:List (Int×Int))(n:Nat)(l:Int×Int)(k c:Nat)(hk:(k:Int)=l.2+1)(hn:k<n+1)(hc:(insL ls n)[k]? =some c):insL (ls++ [l]) n=(insL ls n).set k (c+1):=by
 apply List.ext_getElem?;intro i
 rcases Nat.lt_or_ge i (n+1)with hi|hi
 ·rw[insL_at _ _ _ hi,List.getElem?_set,insL_length]
  rw[insL_at _ _ _ hn,Option.some.injEq]at hc
  by_cases h:k=i
  ·subst h
   rw[if_pos rfl,if_pos hi,List.countP_append,hc];simp[hk]
  rw[if_neg h,insL_at _ _ _ hi,List.countP_append];have:¬l.2+1=(i:Int):=by omega
  simp[this]
 rw[List.getElem?_eq_none (by rw[insL_length];exact hi),List.getElem?_eq_none (by rw[List.length_set,insL_length];exact hi)]
theorem outsL_snoc (ls:List (Int×Int))(n:Nat)(l:Int×Int)(k c:Nat)(hk:(k:Int)=l.1+1)(hn:k<n+1)(hc:(outsL ls n)[k]? =some c):outsL (ls++ [l]) n=(outsL ls n).set k (c+1):=by
 apply List.ext_getElem?;intro i
 rcases Nat.lt_or_ge i (n+1)with hi|hi
 ·rw[outsL_at _ _ _ hi,List.getElem?_set,outsL_length]
  rw[outsL_at _ _ _ hn,Option.some.injEq]at hc
  by_cases h:k=i
  ·subst h
   rw[if_pos rfl,if_pos hi,List.countP_append,hc];simp[hk]
  rw[if_neg h,outsL_at _ _ _ hi,List.countP_append];have:¬l.1+1=(i:Int):=by omega
  simp[this]
 rw[List.getElem?_eq_none (by rw[outsL_length];exact hi),List.getElem?_eq_none (by rw[List.length_set,outsL_length];exact hi)]
theorem bet_snoc (ls:List (Int×Int))(l:Int×Int):bet (ls++ [l])=bet ls++if(decide (0<=l.1)&&decide (0<=l.2))=true then [l]else []:=by
 unfold bet;rw[List.filter_append]
 congr 1
 cases h:(decide (0<=l.1)&&decide (0<=l.2))<;>simp[h]
theorem bet_length (ls:List (Int×Int)):(bet ls).length<=ls.length:=List.length_filter_le _ _
def around (T:Ac):List Ac:=.mk 0 0 0 0 (.mk 0 0 []) [] [] [] [] []::T.ks
def joinedAt (T:Ac)(i:Nat):Bool:=((T.around[i]?).map λk=>joinedB k.kind k.a k.cs.length (((insL T.ls T.ks.length)[i]?).getD 0:Nat) (((outsL T.ls T.ks.length)[i]?).getD 0:Nat)).getD true
noncomputable def freeB (n:Nat)(rs:List (Int×Int)):Bool:=if Rk.chk n rs≠0 then false else((List.range n).filter λi=>Rk.lead (rs.map λe=>(e.1.toNat,e.2.toNat)) i i).isEmpty
noncomputable def linkedB (T:Ac):Bool:= !decide (T.ks.length=0)&&decide (T.ls.length<=40)&&T.ls.all (inR T.ks.length)&&(List.range (T.ks.length+1)).all T.joinedAt&&freeB T.ks.length (bet T.ls)
end Ac
theorem Ak.infoAct:(Tryz.prog.info? 32).map (λi=>(i.zero,i.size,i.bytes))=some (some (.agg #[.int .i64 0,.int .i64 0,.int .i64 0,.int .i64 0,.int .i64 0,.int .i64 0,.slice none 0 0,.slice none 0 0,.slice none 0 0,.slice none 0 0,.slice none 0 0,.slice none 0 0]),12,192):=by kernel_rfl
theorem Ak.infoEdge:(Tryz.prog.info? 113).map (λi=>(i.zero,i.size,i.bytes))=some (some (.agg #[.int .i64 0,.int .i64 0]),2,16):=by kernel_rfl
theorem Ak.flat_len {f:Nat->List Value}(hf:∀j,(f j).length=12)(n:Nat):((List.range n).flatMap f).length=n*12:=by
 induction n with
 |zero=>rfl
 |succ n ih=>rw[List.range_succ,List.flatMap_append,List.length_append,ih];simp[hf];omega
theorem Ak.flat_at {f:Nat->List Value}(hf:∀j,(f j).length=12)(n j i:Nat)(hj:j<n)(hi:i<12):((List.range n).flatMap f)[j*12+i]? =(f j)[i]? :=by
 induction n with
 |zero=>omega
 |succ n ih=>
  rw[List.range_succ,List.flatMap_append]
  rcases Nat.lt_or_ge j n with h|h
  ·rw[List.getElem?_append_left (by rw[Ak.flat_len hf];omega)]
   exact ih h
  have:j=n:=by omega
  subst this;rw[List.getElem?_append_right (by rw[Ak.flat_len hf];omega),Ak.flat_len hf]
  simp
def Ac.kcells (T:Ac)(U:Nat->Ac.Vs):List Value:=(List.range T.ks.length).flatMap λj=>(Ac.row ((T.ks[j]?).getD (.mk 0 0 0 0 (.mk 0 0 []) [] [] [] [] [])) (U j)).toList
theorem Ac.kcells_len (T:Ac)(U:Nat->Ac.Vs):(T.kcells U).length=T.ks.length*12:=Ak.flat_len (λ_=>rfl) _
theorem Ac.kcells_at (T:Ac)(U:Nat->Ac.Vs)(j i:Nat)(hj:j<T.ks.length)(hi:i<12):(T.kcells U)[j*12+i]? =some ((Ac.row T.ks[j] (U j))[i]'(by simpa [Ac.row]using hi)):=by
 unfold Ac.kcells;rw[Ak.flat_at (λ_=>rfl) _ j i hj hi,List.getElem?_eq_getElem hj];simp only[Option.getD_some,Array.getElem?_toList];rw[Array.getElem?_eq_getElem (by simpa [Ac.row]using hi)]
theorem Ac.kcells_one {w:World}{B e d:Nat}{T:Ac}{U:Nat->Ac.Vs}(h:∀j (h:j<T.ks.length),Ac.Lies w B e d (U j) T.ks[j]):∀u∈T.kcells U,u.oneCell'=true:=by
 intro u hu;obtain⟨j,hj,hu⟩:=List.mem_flatMap.1 hu;have hj':=List.mem_range.1 hj;have h1:=(h j hj').ones;rw[List.getElem?_eq_getElem hj']at hu;rw[Array.all_eq_true_iff_forall_mem]at h1;exact h1 u (by simpa using hu)
def Ak.Ats (w:World)(g:Nat)(l:List Nat):Prop:=w.heap[g]? =some (.cells (l.map λi:Nat=>Value.int .i64 (i:Int)).toArray 3 (0,0))
theorem Ak.Ats.lt {w:World}{g:Nat}{l:List Nat}(h:Ak.Ats w g l):g<w.heap.size:=(Array.getElem?_eq_some_iff.1 h).1
theorem Ak.Ats.cell {w:World}{g:Nat}{l:List Nat}(h:Ak.Ats w g l)(j x:Nat)(hj:l[j]? =some x):w.cell? ⟨g,j,none⟩=some (.int .i64 (x:Int)):=by
 unfold Ak.Ats at h;simp[World.cell?,h,hj]
theorem Ak.Ats.frozen {w:World}{g:Nat}{l:List Nat}(h:Ak.Ats w g l)(j:Nat):w.frozen? ⟨g,j,none⟩=false:=by
 unfold Ak.Ats at h;simp[World.frozen?,h]
theorem Ak.Ats.put {w:World}{g:Nat}{l:List Nat}(h:Ak.Ats w g l)(j x:Nat):Ak.Ats (w.setCell ⟨g,j,none⟩ (.int .i64 (x:Int))) g (l.set j x):=by
 unfold Ak.Ats at*;simp[World.setCell,Array.getElem?_modify,h,List.map_set]
theorem Ak.Ats.keep {w w':World}{g:Nat}{l:List Nat}(h:Ak.Ats w g l)(hk:w'.heap[g]? =w.heap[g]?):Ak.Ats w' g l:=by unfold Ak.Ats;rw[hk];exact h
def Ak.irow (n:Nat):Array Value:=((List.replicate n 0).map λi:Nat=>Value.int .i64 (i:Int)).toArray
theorem Ak.infoIntA:(Tryz.prog.info? 3).map (λi=>(i.zero,i.size,i.bytes))=some (some (.int .i64 0),1,8):=by kernel_rfl
theorem Ak.make_ints (n:Nat)(hn:n<=2000)(w:World):(Instr.makeSlice 111 (.int .i64 (n:Int)) (.int .i64 (n:Int))).run Tryz.prog w=.ok (.slice (some ⟨w.heap.size,0,none⟩) n n) (w.alloc (.cells (Ak.irow n) 3)):=by
 have h:=run_make_row' (P:=Tryz.prog) 111 3 (.int .i64 0) 8 Tryz.underlying111 Ak.infoIntA rfl .i64 .i64 n (by omega) (by omega) w;rw[h,show madeCells #[Value.int .i64 0] n=Ak.irow n from ?_];apply Array.toList_inj.1;rw[toList_madeCells_one];simp[Ak.irow]
theorem Ak.ats_new (w:World)(n:Nat):Ak.Ats (w.alloc (.cells (Ak.irow n) 3)) w.heap.size (List.replicate n 0):=heap_alloc_new w _
theorem Ac.insL_nil (n:Nat):Ac.insL [] n=List.replicate (n+1) 0:=by
 unfold Ac.insL;rw[List.eq_replicate_iff];exact⟨by simp,by simp⟩
theorem Ac.outsL_nil (n:Nat):Ac.outsL [] n=List.replicate (n+1) 0:=by
 unfold Ac.outsL;rw[List.eq_replicate_iff];exact⟨by simp,by simp⟩
def Ak.ecells (es:List (Int×Int)):List Value:=es.flatMap λe=> [.int .i64 e.1,.int .i64 e.2]
theorem Ak.ecells_at (es:List (Int×Int))(j:Nat)(hj:j<es.length):(Ak.ecells es)[j*2]? =some (.int .i64 es[j].1)/\(Ak.ecells es)[j*2+1]? =some (.int .i64 es[j].2):=by
 induction es generalizing j with
 |nil=>simp at hj
 |cons a r ih=>
  have hc:Ak.ecells (a::r)=.int .i64 a.1::.int .i64 a.2::Ak.ecells r:=rfl;rw[hc]
  cases j with
  |zero=>simp
  |succ i=>
   have:=ih i (by simpa using hj);rw[show(i+1)*2=i*2+1+1 by omega];simpa using this
theorem Ak.eds_of_own {w:World}{B m c:Nat}{a:Option Addr}{es:List (Int×Int)}(h:w.ownsRow B 113 2 (.slice a m c) es.length (Ak.ecells es)):Rk.Eds w w.heap.size a es:=by
 intro j hj
 rcases h.2 with⟨e,hn⟩|⟨g,cap,cur,e,h3,h4,h5,h6,h7,h8⟩
 ·omega
 simp only[Value.slice.injEq]at e;obtain⟨rfl,-,rfl⟩:=e;have hk:=Ak.ecells_at es j hj;rw[<-h8,List.getElem?_take,List.getElem?_take,if_pos (by omega),if_pos (by omega),Array.getElem?_toList,Array.getElem?_toList]at hk;refine⟨g,0,rfl,(Array.getElem?_eq_some_iff.1 h4).1, ?_, ?_⟩
 ·simp only[World.cell?,h4,Nat.zero_add];exact hk.1
 simp only[World.cell?,h4,Nat.zero_add];exact hk.2
theorem Ak.own_shape {w:World}{B:Nat}{e:TypeId}{size:Nat}{v:Value}{n:Nat}{cs:List Value}(h:w.ownsRow B e size v n cs):∃a c,v=.slice a n c:=by
 rcases h.2 with⟨rfl,rfl⟩|⟨g,cap,cur,rfl,_⟩
 ·exact⟨none,0,rfl⟩
 exact⟨_,_,rfl⟩
theorem Tryz.round_free (n:Nat)(a:Option Addr)(c:Nat)(rs:List (Int×Int))(w:World)(hE:Rk.Eds w w.heap.size a rs)(hm:rs.length<=1000000):
  Calls Tryz.prog 73 #[.int .i64 (n:Int),.slice a rs.length c] w λe w'=>∃la ln lc err,e=.returned (.tuple #[.slice la ln lc,.int .i64 err])/\(decide (err=0)&&decide (ln=0))=Ac.freeB n rs/\Below w.heap.size w w':=by
 unfold Ac.freeB
 split
 ·next h=>
  refine(Tryz.round_err n _ a c rs w hE (by omega) rfl h).mono λe w' ⟨h1,h2⟩=>⟨none,0,0,Rk.chk n rs,h1, ?_,h2⟩;simp[h]
 next h=>
 have h0:Rk.chk n rs=0:=Decidable.not_not.1 h;obtain⟨k,es,hk1,hk,rfl,hl,hes⟩:=Rk.chk_ok h0;obtain rfl:n=k:=by omega
 have key:=Tryz.round_ok n a c es w hk hes hE (by rw[Rk.up_length]at hm;omega) h0
 have hd:((Rk.up es).map λe=>(e.1.toNat,e.2.toNat))=es:=by
  rw[Rk.up,List.map_map];exact(List.map_congr_left λe _=>by simp).trans (List.map_id es)
 rw[Rk.up_length,hd];refine key.mono λe w' ⟨v,he,hown,hb⟩=> ?_;obtain⟨la,lc,rfl⟩:=Ak.own_shape hown;refine⟨la,_,lc,0,he, ?_,hb⟩;rw[decide_eq_true rfl,Bool.true_and]
 cases (List.range n).filter (λi=>Rk.lead es i i)<;>rfl
def Ac.V0:Ac.Vs:=⟨.slice none 0 0,.slice none 0 0,.slice none 0 0,.slice none 0 0,.slice none 0 0,.slice none 0 0⟩
def Ac.UA (U:Nat->Ac.Vs)(i:Nat):Ac.Vs:=if i=0 then Ac.V0 else U (i-1)
theorem Ak.zero_own (w:World):(w.alloc (.cells #[.int .i64 0,.int .i64 0,.int .i64 0,.int .i64 0,.int .i64 0,.int .i64 0,.slice none 0 0,.slice none 0 0,.slice none 0 0,.slice none 0 0,.slice none 0 0,.slice none 0 0] 32)).ownsRow w.heap.size 32 12 (.slice (some ⟨w.heap.size,0,none⟩) 1 1) 1 [.int .i64 0,.int .i64 0,.int .i64 0,.int .i64 0,.int .i64 0,.int .i64 0,.slice none 0 0,.slice none 0 0,.slice none 0 0,.slice none 0 0,.slice none 0 0,.slice none 0 0]:=
 ⟨rfl,.inr ⟨w.heap.size,1,#[.int .i64 0,.int .i64 0,.int .i64 0,.int .i64 0,.int .i64 0,.int .i64 0,.slice none 0 0,.slice none 0 0,.slice none 0 0,.slice none 0 0,.slice none 0 0,.slice none 0 0],rfl,Nat.le_refl _,heap_alloc_new w _,Nat.le_refl _,by unfold maxLen;omega,rfl,rfl⟩⟩
theorem Ak.rows_of {W:World}{B n c gk:Nat}{T:Ac}{U:Nat->Ac.Vs}(h:W.ownsRow B 32 12 (.slice (some ⟨gk,0,none⟩) (1+n) c) (1+n) ([.int .i64 0,.int .i64 0,.int .i64 0,.int .i64 0,.int .i64 0,.int .i64 0,.slice none 0 0,.slice none 0 0,.slice none 0 0,.slice none 0 0,.slice none 0 0,.slice none 0 0]++T.kcells U))(_hn:T.ks.length=n):∀i (hi:i<T.around.length),Ac.Row W gk (i*12) (Ac.row T.around[i] (Ac.UA U i)):=by
 intro i hi k hk;have hk12:k<12:=by simpa [Ac.row]using hk
 have hc:=h.cells (g:=gk) rfl (i*12+k);rw[Go.WideShapes.add_plain,Nat.zero_add]at hc;apply hc
 cases i with
 |zero=>
  rw[Nat.zero_mul,Nat.zero_add,List.getElem?_append_left (by simpa using hk12)]
  rcases(by omega:k=0∨k=1∨k=2∨k=3∨k=4∨k=5∨k=6∨k=7∨k=8∨k=9∨k=10∨k=11)with rfl|rfl|rfl|rfl|rfl|rfl|rfl|rfl|rfl|rfl|rfl|rfl<;>rfl
 |succ i=>
  have hi':i<T.ks.length:=by simpa [Ac.around]using hi
  rw[List.getElem?_append_right (by simp;omega)];have e1:(i+1)*12+k-([.int .i64 0,.int .i64 0,.int .i64 0,.int .i64 0,.int .i64 0,.int .i64 0,.slice none 0 0,.slice none 0 0,.slice none 0 0,.slice none 0 0,.slice none 0 0,.slice none 0 0]:List Value).length=i*12+k:=by simp;omega
  rw[e1,Ac.kcells_at T U i k hi' hk12];rfl
end Go.Proofs
namespace Go.Proofs
open Go.RowKit Go.ChangeShapes Go.WideShapes Go.Deep
instance:Inhabited Tm:=⟨.mk 0 0 []⟩
theorem Tm.Lies.more {w:World}{B:Nat} :∀{d:Nat} {v:Value} {T:Tm},Tm.Lies w B d v T->Tm.Lies w B (d+1) v T
 |0,_,_,h=>h.elim
 |d+1,v,T,h=>by
  obtain⟨a,cap,hv,h⟩:=h;refine⟨a,cap,hv,h.elim .inl fun⟨g,off,ha,hg,hr⟩=> .inr ⟨g,off,ha,hg,λj hj=> ?_⟩⟩;obtain⟨u,h0,h1,h2,h3⟩:=hr j hj;exact⟨u,h0,h1,h2,Tm.Lies.more h3⟩
theorem Tk.cellsTerm:Tryz.prog.cellsOf 24=3:=by kernel_rfl
theorem Tk.cellsInt1:Tryz.prog.cellsOf 3=1:=by kernel_rfl
theorem Tk.cellsTerms:Tryz.prog.cellsOf 22=1:=by kernel_rfl
theorem Tk.list3 {α:Type}{l:List α}(h:l.length=3):∃a b c,l= [a,b,c]:=by
 match l,h with
 | [a,b,c],_=>exact⟨a,b,c,rfl⟩
theorem Tk.cell_lt {w:World}{a:Addr}{v:Value}(h:w.cell? a=some v):a.block<w.heap.size:=by
 rcases Nat.lt_or_ge a.block w.heap.size with h1|h1
 ·exact h1
 unfold World.cell? at h;simp[h1]at h
theorem Tm.open_term {H:Type}{enc:TypeId×Value->H}{w:World}{spare:Nat->Bool}{held:Bool} :∀(fuel:Nat) (cs:List Value) (x:DataW H×List MemPlace),DataW.trod enc Tryz.prog w 0 spare held fuel 24 cs=some x->
  ∃(T:Tm) (v:Value),cs= [.int .i64 T.op,.int .i64 T.num,v]/\Tm.Lies w w.heap.size fuel v T:=by
 intro fuel
 induction fuel using Nat.strongRecOn with
 |_ fuel ih=>
  intro cs x h;obtain⟨ys,n,rfl,hx,hl,hy,hf⟩:=DataW.trod_struct Tryz.underlying24 h;rw[Tk.cellsTerm]at hl;have hy:ys.length=3:=hy;obtain⟨c0,c1,c2,rfl⟩:=Tk.list3 hl;obtain⟨y0,y1,y2,rfl⟩:=Tk.list3 hy;have g0:DataW.trod enc Tryz.prog w 0 spare held n 3 (([c0,c1,c2].drop 0).take (Tryz.prog.cellsOf 3))= [y0,y1,y2][0]? :=hf 0 _ rfl;have g1:DataW.trod enc Tryz.prog w 0 spare held n 3 (([c0,c1,c2].drop 1).take (Tryz.prog.cellsOf 3))= [y0,y1,y2][1]? :=hf 1 _ rfl;have g2:DataW.trod enc Tryz.prog w 0 spare held n 22 (([c0,c1,c2].drop 2).take (Tryz.prog.cellsOf 22))= [y0,y1,y2][2]? :=hf 2 _ rfl;rw[Tk.cellsInt1]at g0 g1;rw[Tk.cellsTerms]at g2;obtain⟨o,e0,_⟩:=DataW.trod_int Tryz.underlying3 g0;obtain⟨m,e1,_⟩:=DataW.trod_int Tryz.underlying3 g1;obtain rfl:c0=.int .i64 o:=(List.cons.inj e0).1;obtain rfl:c1=.int .i64 m:=(List.cons.inj e1).1
  rcases DataW.trod_slice Tryz.underlying22 g2 with⟨e2,_⟩|⟨a,len,cap,elems,rest,n',hn',e2,_,_,hlc,_,hlen,hel,_,_⟩
  ·obtain rfl:c2=.slice none 0 0:=(List.cons.inj e2).1
   exact⟨.mk o m [],.slice none 0 0,rfl,none,0,rfl,.inl rfl⟩
  obtain rfl:c2=.slice (some a) len cap:=(List.cons.inj e2).1;subst hn'
  have each:∀i,i<len->∃q:Tm,∃u,w.cell? (a.add (i*3))=some (.int .i64 q.op)/\w.cell? ((a.add (i*3)).add 1)=some (.int .i64 q.num)/\w.cell? ((a.add (i*3)).add 2)=some u/\Tm.Lies w w.heap.size n' u q:=by
   intro i hi;have h1:=hel i hi;rw[Tk.cellsTerm,List.getElem?_eq_getElem (by omega)]at h1;obtain⟨cs',h2,h3⟩:=Option.bind_eq_some_iff.1 h1;obtain⟨q,u,rfl,hq⟩:=ih n' (by omega) cs' _ h3;obtain⟨_,hl3,hc⟩:=World.cells?_some h2;exact⟨q,u,by simpa [Addr.add]using hc 0 (by simp),by simpa using hc 1 (by simp),by simpa using hc 2 (by simp),hq⟩
  obtain⟨q,hq⟩:=choose_lt each;have hlen':((List.range len).map q).length=len:=by simp
  have hget:∀j (h:j<((List.range len).map q).length),((List.range len).map q)[j]=q j:=λj h=>by simp
  refine⟨.mk o m ((List.range len).map q),.slice (some a) len cap,rfl,some a,cap,by rw[show(Tm.mk o m ((List.range len).map q)).ks=(List.range len).map q from rfl,hlen'], ?_⟩
  by_cases hz:len=0
  ·subst hz;exact .inl rfl
  obtain⟨g,off,spot⟩:=a;obtain⟨_,h0,_⟩:=hq 0 (by omega);have hspot:spot=none:=by simpa [Addr.add]using World.cell?_spot h0
  subst hspot
  have hg:g<w.heap.size:=by
   have:=Tk.cell_lt h0;simpa [Addr.add]using this
  refine .inr ⟨g,off,rfl,hg,λj hj=> ?_⟩;have hj':j<((List.range len).map q).length:=hj;show∃u,w.cell? ⟨g,off+j*3,none⟩=some (.int .i64 (((List.range len).map q)[j]'hj').op)/\w.cell? ⟨g,off+j*3+1,none⟩=some (.int .i64 (((List.range len).map q)[j]'hj').num)/\w.cell? ⟨g,off+j*3+2,none⟩=some u/\Tm.Lies w w.heap.size (n'+1) u (((List.range len).map q)[j]'hj');rw[hget j hj'];rw[hlen']at hj';obtain⟨u,p0,p1,p2,p3⟩:=hq j hj';have ea:∀(c k:Nat),((⟨g,off,none⟩:Addr).add c).add k=⟨g,off+c+k,none⟩:=λc k=>by rw[Go.WideShapes.add_plain,Go.WideShapes.add_plain]
  rw[Go.WideShapes.add_plain]at p0;rw[ea]at p1 p2;exact⟨u,p0,p1,p2,p3.more⟩
theorem Tm.Lies.up {w:World}{B:Nat}{d e:Nat}{v:Value}{T:Tm}(h:Tm.Lies w B d v T)(he:d<=e):Tm.Lies w B e v T:=by
 induction he with
 |refl=>exact h
 |step _ ih=>exact ih.more
theorem Nt.cellsNode:Tryz.prog.cellsOf 62=5:=by kernel_rfl
theorem Nt.cellsFlow:Tryz.prog.cellsOf 64=6:=by kernel_rfl
theorem Nt.cellsNet:Tryz.prog.cellsOf 30=2:=by kernel_rfl
theorem Nt.cellsBool:Tryz.prog.cellsOf 4=1:=by kernel_rfl
theorem Nt.cellsNodes:Tryz.prog.cellsOf 27=1:=by kernel_rfl
theorem Nt.cellsFlows:Tryz.prog.cellsOf 28=1:=by kernel_rfl
theorem Nt.list2 {α:Type}{l:List α}(h:l.length=2):∃a b,l= [a,b]:=by
 match l,h with
 | [a,b],_=>exact⟨a,b,rfl⟩
theorem Nt.list4 {α:Type}{l:List α}(h:l.length=4):∃a b c d,l= [a,b,c,d]:=by
 match l,h with
 | [a,b,c,d],_=>exact⟨a,b,c,d,rfl⟩
theorem Nt.list5 {α:Type}{l:List α}(h:l.length=5):∃a b c d e,l= [a,b,c,d,e]:=by
 match l,h with
 | [a,b,c,d,e],_=>exact⟨a,b,c,d,e,rfl⟩
theorem Nt.list6 {α:Type}{l:List α}(h:l.length=6):∃a b c d e f,l= [a,b,c,d,e,f]:=by
 match l,h with
 | [a,b,c,d,e,f],_=>exact⟨a,b,c,d,e,f,rfl⟩
section
variable {H:Type} {enc:TypeId×Value->H} {w:World} {spare:Nat->Bool} {held:Bool}
theorem Nt.open_node (fuel:Nat)(cs:List Value)(x:DataW H×List MemPlace)(h:DataW.trod enc Tryz.prog w 0 spare held fuel 62 cs=some x):
  ∃(X:Nd) (v:Value),cs= [.int .i64 X.kind,.int .i64 X.a,.int .i64 X.t.op,.int .i64 X.t.num,v]/\Tm.Lies w w.heap.size fuel v X.t:=by
 obtain⟨ys,n,rfl,hx,hl,hy,hf⟩:=DataW.trod_struct Tryz.underlying62 h;rw[Nt.cellsNode]at hl;have hy:ys.length=3:=hy;obtain⟨c0,c1,c2,c3,c4,rfl⟩:=Nt.list5 hl;obtain⟨y0,y1,y2,rfl⟩:=Tk.list3 hy;have g0:DataW.trod enc Tryz.prog w 0 spare held n 3 (([c0,c1,c2,c3,c4].drop 0).take (Tryz.prog.cellsOf 3))= [y0,y1,y2][0]? :=hf 0 _ rfl;have g1:DataW.trod enc Tryz.prog w 0 spare held n 3 (([c0,c1,c2,c3,c4].drop 1).take (Tryz.prog.cellsOf 3))= [y0,y1,y2][1]? :=hf 1 _ rfl;have g2:DataW.trod enc Tryz.prog w 0 spare held n 24 (([c0,c1,c2,c3,c4].drop 2).take (Tryz.prog.cellsOf 24))= [y0,y1,y2][2]? :=hf 2 _ rfl;rw[Tk.cellsInt1]at g0 g1;rw[Tk.cellsTerm]at g2;obtain⟨o,e0,_⟩:=DataW.trod_int Tryz.underlying3 g0;obtain⟨m,e1,_⟩:=DataW.trod_int Tryz.underlying3 g1;obtain rfl:c0=.int .i64 o:=(List.cons.inj e0).1;obtain rfl:c1=.int .i64 m:=(List.cons.inj e1).1;obtain⟨T,v,hcs,hT⟩:=Tm.open_term n _ _ g2;have h3: [c2,c3,c4]= [.int .i64 T.op,.int .i64 T.num,v]:=hcs;simp only[List.cons.injEq,and_true]at h3;obtain⟨rfl,rfl,rfl⟩:=h3;exact⟨⟨o,m,T⟩,c4,rfl,hT.up (by omega)⟩
theorem Nt.open_flow (fuel:Nat)(cs:List Value)(x:DataW H×List MemPlace)(h:DataW.trod enc Tryz.prog w 0 spare held fuel 64 cs=some x):
  ∃(X:Fl) (v:Value),cs= [.int .i64 X.fr,.int .i64 X.to,.bool X.els,.int .i64 X.c.op,.int .i64 X.c.num,v]/\Tm.Lies w w.heap.size fuel v X.c:=by
 obtain⟨ys,n,rfl,hx,hl,hy,hf⟩:=DataW.trod_struct Tryz.underlying64 h;rw[Nt.cellsFlow]at hl;have hy:ys.length=4:=hy;obtain⟨c0,c1,c2,c3,c4,c5,rfl⟩:=Nt.list6 hl;obtain⟨y0,y1,y2,y3,rfl⟩:=Nt.list4 hy;have g0:DataW.trod enc Tryz.prog w 0 spare held n 3 (([c0,c1,c2,c3,c4,c5].drop 0).take (Tryz.prog.cellsOf 3))= [y0,y1,y2,y3][0]? :=hf 0 _ rfl;have g1:DataW.trod enc Tryz.prog w 0 spare held n 3 (([c0,c1,c2,c3,c4,c5].drop 1).take (Tryz.prog.cellsOf 3))= [y0,y1,y2,y3][1]? :=hf 1 _ rfl;have g2:DataW.trod enc Tryz.prog w 0 spare held n 4 (([c0,c1,c2,c3,c4,c5].drop 2).take (Tryz.prog.cellsOf 4))= [y0,y1,y2,y3][2]? :=hf 2 _ rfl;have g3:DataW.trod enc Tryz.prog w 0 spare held n 24 (([c0,c1,c2,c3,c4,c5].drop 3).take (Tryz.prog.cellsOf 24))= [y0,y1,y2,y3][3]? :=hf 3 _ rfl;rw[Tk.cellsInt1]at g0 g1;rw[Nt.cellsBool]at g2;rw[Tk.cellsTerm]at g3;obtain⟨o,e0,_⟩:=DataW.trod_int Tryz.underlying3 g0;obtain⟨m,e1,_⟩:=DataW.trod_int Tryz.underlying3 g1;obtain⟨b,e2,_⟩:=DataW.trod_bool Tryz.underlying4 g2;obtain rfl:c0=.int .i64 o:=(List.cons.inj e0).1;obtain rfl:c1=.int .i64 m:=(List.cons.inj e1).1;obtain rfl:c2=.bool b:=(List.cons.inj e2).1;obtain⟨T,v,hcs,hT⟩:=Tm.open_term n _ _ g3;have h3: [c3,c4,c5]= [.int .i64 T.op,.int .i64 T.num,v]:=hcs;simp only[List.cons.injEq,and_true]at h3;obtain⟨rfl,rfl,rfl⟩:=h3
 exact⟨⟨o,m,b,T⟩,c5,rfl,hT.up (by omega)⟩
theorem Nt.open_nodes (fuel:Nat)(c:Value)(x:DataW H×List MemPlace)(h:DataW.trod enc Tryz.prog w 0 spare held fuel 27 [c]=some x):∃a cap ns,c=.slice a (ns:List Nd).length cap/\Nt.Nds w w.heap.size fuel a ns:=by
 rcases DataW.trod_slice Tryz.underlying27 h with⟨e2,_⟩|⟨a,len,cap,elems,rest,n',hn',e2,_,_,hlc,_,hlen,hel,_,_⟩
 ·obtain rfl:c=.slice none 0 0:=(List.cons.inj e2).1
  exact⟨none,0, [],rfl,λj hj=>by simp at hj⟩
 obtain rfl:c=.slice (some a) len cap:=(List.cons.inj e2).1;subst hn'
 have each:∀i,i<len->∃q:Nd,∃u,w.cell? (a.add (i*5))=some (.int .i64 q.kind)/\w.cell? ((a.add (i*5)).add 1)=some (.int .i64 q.a)/\w.cell? ((a.add (i*5)).add 2)=some (.int .i64 q.t.op)/\w.cell? ((a.add (i*5)).add 3)=some (.int .i64 q.t.num)/\w.cell? ((a.add (i*5)).add 4)=some u/\Tm.Lies w w.heap.size n' u q.t:=by
  intro i hi;have h1:=hel i hi;rw[Nt.cellsNode,List.getElem?_eq_getElem (by omega)]at h1;obtain⟨cs',h2,h3⟩:=Option.bind_eq_some_iff.1 h1;obtain⟨q,u,rfl,hq⟩:=Nt.open_node n' cs' _ h3;obtain⟨_,hl3,hc⟩:=World.cells?_some h2;exact⟨q,u,by simpa [Addr.add]using hc 0 (by simp),by simpa using hc 1 (by simp),by simpa using hc 2 (by simp),by simpa using hc 3 (by simp),by simpa using hc 4 (by simp),hq⟩
 by_cases hz:len=0
 ·subst hz
  exact⟨some a,cap, [],rfl,λj hj=>by simp at hj⟩
 haveI:Inhabited Nd:=⟨⟨0,0,.mk 0 0 []⟩⟩
 obtain⟨q,hq⟩:=choose_lt each;have hlen':((List.range len).map q).length=len:=by simp
 refine⟨some a,cap,(List.range len).map q,by rw[hlen'],λj hj=> ?_⟩;obtain⟨g,off,spot⟩:=a;obtain⟨_,h0,_⟩:=hq 0 (by omega);have hspot:spot=none:=by simpa [Addr.add]using World.cell?_spot h0
 subst hspot
 have hg:g<w.heap.size:=by
  have:=Tk.cell_lt h0;simpa [Addr.add]using this
 have hget:((List.range len).map q)[j]=q j:=by simp
 rw[hget];rw[hlen']at hj;obtain⟨u,p0,p1,p2,p3,p4,p5⟩:=hq j hj;have ea:∀(c k:Nat),((⟨g,off,none⟩:Addr).add c).add k=⟨g,off+c+k,none⟩:=λc k=>by rw[Go.WideShapes.add_plain,Go.WideShapes.add_plain]
 rw[Go.WideShapes.add_plain]at p0;rw[ea]at p1 p2 p3 p4;exact⟨g,off,u,rfl,hg,p0,p1,p2,p3,p4,p5.up (by omega)⟩
theorem Nt.open_flows (fuel:Nat)(c:Value)(x:DataW H×List MemPlace)(h:DataW.trod enc Tryz.prog w 0 spare held fuel 28 [c]=some x):∃a cap fs,c=.slice a (fs:List Fl).length cap/\Nt.Fls w w.heap.size fuel a fs:=by
 rcases DataW.trod_slice Tryz.underlying28 h with⟨e2,_⟩|⟨a,len,cap,elems,rest,n',hn',e2,_,_,hlc,_,hlen,hel,_,_⟩
 ·obtain rfl:c=.slice none 0 0:=(List.cons.inj e2).1
  exact⟨none,0, [],rfl,λj hj=>by simp at hj⟩
 obtain rfl:c=.slice (some a) len cap:=(List.cons.inj e2).1;subst hn'
 have each:∀i,i<len->∃q:Fl,∃u,w.cell? (a.add (i*6))=some (.int .i64 q.fr)/\w.cell? ((a.add (i*6)).add 1)=some (.int .i64 q.to)/\w.cell? ((a.add (i*6)).add 2)=some (.bool q.els)/\w.cell? ((a.add (i*6)).add 3)=some (.int .i64 q.c.op)/\w.cell? ((a.add (i*6)).add 4)=some (.int .i64 q.c.num)/\w.cell? ((a.add (i*6)).add 5)=some u/\Tm.Lies w w.heap.size n' u q.c:=by
  intro i hi;have h1:=hel i hi;rw[Nt.cellsFlow,List.getElem?_eq_getElem (by omega)]at h1;obtain⟨cs',h2,h3⟩:=Option.bind_eq_some_iff.1 h1;obtain⟨q,u,rfl,hq⟩:=Nt.open_flow n' cs' _ h3;obtain⟨_,hl3,hc⟩:=World.cells?_some h2;exact⟨q,u,by simpa [Addr.add]using hc 0 (by simp),by simpa using hc 1 (by simp),by simpa using hc 2 (by simp),by simpa using hc 3 (by simp),by simpa using hc 4 (by simp),by simpa using hc 5 (by simp),hq⟩
 by_cases hz:len=0
 ·subst hz
  exact⟨some a,cap, [],rfl,λj hj=>by simp at hj⟩
 haveI:Inhabited Fl:=⟨⟨0,0,false,.mk 0 0 []⟩⟩
 obtain⟨q,hq⟩:=choose_lt each;have hlen':((List.range len).map q).length=len:=by simp
 refine⟨some a,cap,(List.range len).map q,by rw[hlen'],λj hj=> ?_⟩;obtain⟨g,off,spot⟩:=a;obtain⟨_,h0,_⟩:=hq 0 (by omega);have hspot:spot=none:=by simpa [Addr.add]using World.cell?_spot h0
 subst hspot
 have hg:g<w.heap.size:=by
  have:=Tk.cell_lt h0;simpa [Addr.add]using this
 have hget:((List.range len).map q)[j]=q j:=by simp
 rw[hget];rw[hlen']at hj;obtain⟨u,p0,p1,p2,p3,p4,p5,p6⟩:=hq j hj;have ea:∀(c k:Nat),((⟨g,off,none⟩:Addr).add c).add k=⟨g,off+c+k,none⟩:=λc k=>by rw[Go.WideShapes.add_plain,Go.WideShapes.add_plain]
 rw[Go.WideShapes.add_plain]at p0;rw[ea]at p1 p2 p3 p4 p5;exact⟨g,off,u,rfl,hg,p0,p1,p2,p3,p4,p5,p6.up (by omega)⟩
end
end Go.Proofs
