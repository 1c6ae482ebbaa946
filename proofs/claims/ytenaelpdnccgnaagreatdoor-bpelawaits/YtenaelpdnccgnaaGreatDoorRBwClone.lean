import Derived.Test.YtenaelpdnccgnaaGreatDoorRBwList
import Derived.Test.YtenaelpdnccgnaaGreatDoorRAcAlike
import Derived.Great.BuildSlice
set_option maxRecDepth 100000
set_option maxHeartbeats 32000000
namespace Go.Proofs
open Go.RowKit Go.Shelf
theorem Tryz.infoActs:(Tryz.prog.info? 32).map (λi=>(i.zero,i.size,i.bytes))=some (some (.agg #[.int .i64 0,.int .i64 0,.int .i64 0,.int .i64 0,.int .i64 0,.int .i64 0,.slice none 0 0,.slice none 0 0,.slice none 0 0,.slice none 0 0,.slice none 0 0,.slice none 0 0]),12,192):=by kernel_rfl
theorem Tryz.cloneAct_nil (w:World)(c:Nat):
  Calls Tryz.prog 81 #[.slice none 0 c] w λe w'=>e=.returned (.slice none 0 0)/\w'=w:=by
 have hq:∀W:World,(binOp BinOp.eql 25 (.slice none 0 c) (.slice none 0 0)).run Tryz.prog W=.ok (.bool true) W:=λ_=>by kernel_rfl
 go_enter Tryz.func81,Tryz.ntmps81
 go_wp2;go_ret;exact⟨rfl,rfl⟩
theorem Tryz.cloneAct_any (ad:Addr)(n c:Nat)(xs:List Value)(w:World)(hl:xs.length=n*12)(hx:∀j v,xs[j]? =some v->w.cell? (ad.add j)=some v)(h1:∀v∈xs,v.oneCell'=true)(hb:0<n->ad.block<w.heap.size)(hn:n<=1000000):
  Calls Tryz.prog 81 #[.slice (some ad) n c] w λe w'=>∃g c',e=.returned (.slice (some ⟨g,0,none⟩) n c')/\Hid (w.heap.size<=g/\(∃cur,w'.heap[g]? =some (.cells cur 32 (0,0))/\cur.toList.take (n*12)=xs)/\Below w.heap.size w w'):=by
 obtain⟨i0,hi,hz0,hz1,hz2⟩:=info_parts Tryz.infoActs;have hq:∀W:World,(binOp BinOp.eql 25 (.slice (some ad) n c) (.slice none 0 0)).run Tryz.prog W=.ok (.bool false) W:=λ_=>by kernel_rfl
 have HC:Hid (∀j v,xs[j]? =some v->(w.alloc (.cells #[] 32)).cell? (ad.add j)=some v):=λj v hv=>by
  have hbl:Below w.heap.size w (w.alloc (.cells #[] 32)):=(Below.refl _ w).alloc (Nat.le_refl _) _;rw[hbl.cell (p:=ad.add j) (by rw[Nt.add_block];exact hb (by have:=(List.getElem?_eq_some_iff.1 hv).1;omega))];exact hx j v hv
 have H1:Hid (∀v,v∈xs->v.oneCell'=true):=h1;have HO:Hid ((w.alloc (.cells #[] 32)).ownsRow w.heap.size 32 12 (.slice (some ⟨w.heap.size,0,none⟩) 0 0) 0 []):=World.ownsRow_made w #[] 0 (Nat.le_refl _) (by unfold maxLen;omega) rfl;have HL:Hid (xs.length=n*12):=hl;clear hx h1 hb hl
 go_enter Tryz.func81,Tryz.ntmps81
 go_wp2_with (at_builtin;refine wpList_append_own _ rfl _ _ 25 rfl w.heap.size 32 i0 (.agg #[.int .i64 0,.int .i64 0,.int .i64 0,.int .i64 0,.int .i64 0,.int .i64 0,.slice none 0 0,.slice none 0 0,.slice none 0 0,.slice none 0 0,.slice none 0 0,.slice none 0 0]) 12 192 Tryz.underlying25 hi hz0 hz1 hz2 rfl (by decide) _ 0 [] rfl HO.out ad n c xs rfl HL.out HC.out H1.out ?c3 ?c4 ?c5 ?_)
 case c3=>unfold maxLen;omega
 case c4=>omega
 case c5=>simp
 intro v' W2 own2 g2 hne;have HB:Hid (Below w.heap.size w W2):=Rk.below_grown ((Below.refl _ w).alloc (Nat.le_refl _) _) (by simp) HO.out g2
 rcases own2.2 with⟨hv,_⟩|⟨g,cap,cur,rfl,hgB,hgc,_,_,_,hgr⟩
 ·exact(hne hv).elim
 have HV:Hid (w.heap.size<=g/\W2.heap[g]? =some (.cells cur 32 (0,0))/\cur.toList.take (n*12)=xs):=⟨hgB,hgc,by simpa using hgr⟩;clear own2 g2 hne hgB hgc hgr;go_wp2;go_ret;exact⟨g,cap,by first|rfl|simp,HV.out.1,⟨cur,HV.out.2⟩,HB.out⟩
theorem Tryz.cloneLink_nil (w:World)(c:Nat):
  Calls Tryz.prog 82 #[.slice none 0 c] w λe w'=>e=.returned (.slice none 0 0)/\w'=w:=by
 have hq:∀W:World,(binOp BinOp.eql 26 (.slice none 0 c) (.slice none 0 0)).run Tryz.prog W=.ok (.bool true) W:=λ_=>by kernel_rfl
 go_enter Tryz.func82,Tryz.ntmps82
 go_wp2;go_ret;exact⟨rfl,rfl⟩
namespace Ac
def inR (n:Nat)(l:Int×Int):Bool:=decide (-1<=l.1/\ -1<=l.2/\l.1<n/\l.2<n)
def insL (ls:List (Int×Int))(n:Nat):List Nat:=(List.range (n+1)).map λi:Nat=>ls.countP λl=>decide (l.2+1=(i:Int))
def outsL (ls:List (Int×Int))(n:Nat):List Nat:=(List.range (n+1)).map λi:Nat=>ls.countP λl=>decide (l.1+1=(i:Int))
def bet (ls:List (Int×Int)):List (Int×Int):=ls.filter λl=>decide (0<=l.1)&&decide (0<=l.2)
theorem insL_length (ls:List (Int×Int))(n:Nat):(insL ls n).length=n+1:=by simp[insL]
theorem outsL_length (ls:List (Int×Int))(n:Nat):(outsL ls n).length=n+1:=by simp[outsL]
theorem insL_at (ls:List (Int×Int))(n i:Nat)(h:i<n+1):(insL ls n)[i]? =some (ls.countP λl=>decide (l.2+1=(i:Int))):=by
 unfold insL;rw[List.getElem?_map,List.getElem?_range h];rfl
theorem outsL_at (ls:List (Int×Int))(n i:Nat)(h:i<n+1):(outsL ls n)[i]? =some (ls.countP λl=>decide (l.1+1=(i:Int))):=by
 unfold outsL;rw[List.getElem?_map,List.getElem?_range h];rfl
theorem insL_snoc (ls:List (Int×Int))(n:Nat)(l:Int×Int)(k c:Nat)(hk:(k:Int)=l.2+1)(hn:k<n+1)(hc:(insL ls n)[k]? =some c):insL (ls++ [l]) n=(insL ls n).set k (c+1):=by
 apply List.ext_getElem?;intro i
 rcases Nat.lt_or_ge i (n+1)with hi|hi
 ·rw[insL_at _ _ _ hi,List.getElem?_set,insL_length]
  rw[insL_at _ _ _ hn,Option.some.injEq]at hc
  by_cases h:k=i
  ·subst h
   rw[if_pos rfl,if_pos hi,List.countP_append,hc];simp[hk]
  rw[if_neg h,insL_at _ _ _ hi,List.countP_append];have:¬l.2+1=(i:Int):=by omega
  simp[this]
 rw[List.getElem?_eq_none (by rw[insL_length];exact hi),List.getElem?_eq_none (by rw[List.length_set,insL_length];exact hi)]
theorem outsL_snoc (ls:List (Int×Int))(n:Nat)(l:Int×Int)(k c:Nat)(hk:(k:Int)=l.1+1)(hn:k<n+1)(hc:(outsL ls n)[k]? =some c):outsL (ls++ [l]) n=(outsL ls n).set k (c+1):=by
 apply List.ext_getElem?;intro i
 rcases Nat.lt_or_ge i (n+1)with hi|hi
 ·rw[outsL_at _ _ _ hi,List.getElem?_set,outsL_length]
  rw[outsL_at _ _ _ hn,Option.some.injEq]at hc
  by_cases h:k=i
  ·subst h
   rw[if_pos rfl,if_pos hi,List.countP_append,hc];simp[hk]
  rw[if_neg h,outsL_at _ _ _ hi,List.countP_append];have:¬l.1+1=(i:Int):=by omega
  simp[this]
 rw[List.getElem?_eq_none (by rw[outsL_length];exact hi),List.getElem?_eq_none (by rw[List.length_set,outsL_length];exact hi)]
theorem bet_snoc (ls:List (Int×Int))(l:Int×Int):bet (ls++ [l])=bet ls++if(decide (0<=l.1)&&decide (0<=l.2))=true then [l]else []:=by
 unfold bet;rw[List.filter_append]
 congr 1
 cases h:(decide (0<=l.1)&&decide (0<=l.2))<;>simp[h]
def around (T:Ac):List Ac:=.mk 0 0 0 0 (.mk 0 0 []) [] [] [] [] []::T.ks
def joinedAt (T:Ac)(i:Nat):Bool:=((T.around[i]?).map λk=>joinedB k.kind k.a k.cs.length (((insL T.ls T.ks.length)[i]?).getD 0:Nat) (((outsL T.ls T.ks.length)[i]?).getD 0:Nat)).getD true
noncomputable def freeB (n:Nat)(rs:List (Int×Int)):Bool:=if Rk.chk n rs≠0 then false else((List.range n).filter λi=>Rk.lead (rs.map λe=>(e.1.toNat,e.2.toNat)) i i).isEmpty
noncomputable def linkedB (T:Ac):Bool:= !decide (T.ks.length=0)&&decide (T.ls.length<=40)&&T.ls.all (inR T.ks.length)&&(List.range (T.ks.length+1)).all T.joinedAt&&freeB T.ks.length (bet T.ls)
end Ac
theorem Ak.infoAct:(Tryz.prog.info? 32).map (λi=>(i.zero,i.size,i.bytes))=some (some (.agg #[.int .i64 0,.int .i64 0,.int .i64 0,.int .i64 0,.int .i64 0,.int .i64 0,.slice none 0 0,.slice none 0 0,.slice none 0 0,.slice none 0 0,.slice none 0 0,.slice none 0 0]),12,192):=by kernel_rfl
theorem Ak.infoEdge:(Tryz.prog.info? 113).map (λi=>(i.zero,i.size,i.bytes))=some (some (.agg #[.int .i64 0,.int .i64 0]),2,16):=by kernel_rfl
theorem Ak.flat_len {f:Nat->List Value}(hf:∀j,(f j).length=12)(n:Nat):((List.range n).flatMap f).length=n*12:=by
 induction n with
 |zero=>rfl
 |succ n ih=>rw[List.range_succ,List.flatMap_append,List.length_append,ih];simp[hf];omega
theorem Ak.flat_at {f:Nat->List Value}(hf:∀j,(f j).length=12)(n j i:Nat)(hj:j<n)(hi:i<12):((List.range n).flatMap f)[j*12+i]? =(f j)[i]? :=by
 induction n with
 |zero=>omega
 |succ n ih=>
  rw[List.range_succ,List.flatMap_append]
  rcases Nat.lt_or_ge j n with h|h
  ·rw[List.getElem?_append_left (by rw[Ak.flat_len hf];omega)]
   exact ih h
  have:j=n:=by omega
  subst this;rw[List.getElem?_append_right (by rw[Ak.flat_len hf];omega),Ak.flat_len hf]
  simp
def Ac.kcells (T:Ac)(U:Nat->Ac.Vs):List Value:=(List.range T.ks.length).flatMap λj=>(Ac.row ((T.ks[j]?).getD (.mk 0 0 0 0 (.mk 0 0 []) [] [] [] [] [])) (U j)).toList
theorem Ac.kcells_len (T:Ac)(U:Nat->Ac.Vs):(T.kcells U).length=T.ks.length*12:=Ak.flat_len (λ_=>rfl) _
theorem Ac.kcells_at (T:Ac)(U:Nat->Ac.Vs)(j i:Nat)(hj:j<T.ks.length)(hi:i<12):(T.kcells U)[j*12+i]? =some ((Ac.row T.ks[j] (U j))[i]'(by simpa [Ac.row]using hi)):=by
 unfold Ac.kcells;rw[Ak.flat_at (λ_=>rfl) _ j i hj hi,List.getElem?_eq_getElem hj];simp only[Option.getD_some,Array.getElem?_toList];rw[Array.getElem?_eq_getElem (by simpa [Ac.row]using hi)]
theorem Ac.kcells_one {w:World}{B e d:Nat}{T:Ac}{U:Nat->Ac.Vs}(h:∀j (h:j<T.ks.length),Ac.Lies w B e d (U j) T.ks[j]):∀u∈T.kcells U,u.oneCell'=true:=by
 intro u hu;obtain⟨j,hj,hu⟩:=List.mem_flatMap.1 hu;have hj':=List.mem_range.1 hj;have h1:=(h j hj').ones;rw[List.getElem?_eq_getElem hj']at hu;rw[Array.all_eq_true_iff_forall_mem]at h1;exact h1 u (by simpa using hu)
def Ak.Ats (w:World)(g:Nat)(l:List Nat):Prop:=w.heap[g]? =some (.cells (l.map λi:Nat=>Value.int .i64 (i:Int)).toArray 3 (0,0))
theorem Ak.Ats.lt {w:World}{g:Nat}{l:List Nat}(h:Ak.Ats w g l):g<w.heap.size:=(Array.getElem?_eq_some_iff.1 h).1
theorem Ak.Ats.cell {w:World}{g:Nat}{l:List Nat}(h:Ak.Ats w g l)(j x:Nat)(hj:l[j]? =some x):w.cell? ⟨g,j,none⟩=some (.int .i64 (x:Int)):=by
 unfold Ak.Ats at h;simp[World.cell?,h,hj]
theorem Ak.Ats.frozen {w:World}{g:Nat}{l:List Nat}(h:Ak.Ats w g l)(j:Nat):w.frozen? ⟨g,j,none⟩=false:=by
 unfold Ak.Ats at h;simp[World.frozen?,h]
theorem Ak.Ats.put {w:World}{g:Nat}{l:List Nat}(h:Ak.Ats w g l)(j x:Nat):Ak.Ats (w.setCell ⟨g,j,none⟩ (.int .i64 (x:Int))) g (l.set j x):=by
 unfold Ak.Ats at*;simp[World.setCell,Array.getElem?_modify,h,List.map_set]
theorem Ak.Ats.keep {w w':World}{g:Nat}{l:List Nat}(h:Ak.Ats w g l)(hk:w'.heap[g]? =w.heap[g]?):Ak.Ats w' g l:=by unfold Ak.Ats;rw[hk];exact h
def Ak.irow (n:Nat):Array Value:=((List.replicate n 0).map λi:Nat=>Value.int .i64 (i:Int)).toArray
theorem Ak.infoIntA:(Tryz.prog.info? 3).map (λi=>(i.zero,i.size,i.bytes))=some (some (.int .i64 0),1,8):=by kernel_rfl
theorem Ak.make_ints (n:Nat)(hn:n<=2000)(w:World):(Instr.makeSlice 111 (.int .i64 (n:Int)) (.int .i64 (n:Int))).run Tryz.prog w=.ok (.slice (some ⟨w.heap.size,0,none⟩) n n) (w.alloc (.cells (Ak.irow n) 3)):=by
 have h:=run_make_row' (P:=Tryz.prog) 111 3 (.int .i64 0) 8 Tryz.underlying111 Ak.infoIntA rfl .i64 .i64 n (by omega) (by omega) w;rw[h,show madeCells #[Value.int .i64 0] n=Ak.irow n from ?_];apply Array.toList_inj.1;rw[toList_madeCells_one];simp[Ak.irow]
theorem Ak.ats_new (w:World)(n:Nat):Ak.Ats (w.alloc (.cells (Ak.irow n) 3)) w.heap.size (List.replicate n 0):=heap_alloc_new w _
theorem Ac.insL_nil (n:Nat):Ac.insL [] n=List.replicate (n+1) 0:=by
 unfold Ac.insL;rw[List.eq_replicate_iff];exact⟨by simp,by simp⟩
theorem Ac.outsL_nil (n:Nat):Ac.outsL [] n=List.replicate (n+1) 0:=by
 unfold Ac.outsL;rw[List.eq_replicate_iff];exact⟨by simp,by simp⟩
def Ak.ecells (es:List (Int×Int)):List Value:=es.flatMap λe=> [.int .i64 e.1,.int .i64 e.2]
theorem Ak.ecells_at (es:List (Int×Int))(j:Nat)(hj:j<es.length):(Ak.ecells es)[j*2]? =some (.int .i64 es[j].1)/\(Ak.ecells es)[j*2+1]? =some (.int .i64 es[j].2):=by
 induction es generalizing j with
 |nil=>simp at hj
 |cons a r ih=>
  have hc:Ak.ecells (a::r)=.int .i64 a.1::.int .i64 a.2::Ak.ecells r:=rfl;rw[hc]
  cases j with
  |zero=>simp
  |succ i=>
   have:=ih i (by simpa using hj);rw[show(i+1)*2=i*2+1+1 by omega];simpa using this
theorem Ak.eds_of_own {w:World}{B m c:Nat}{a:Option Addr}{es:List (Int×Int)}(h:w.ownsRow B 113 2 (.slice a m c) es.length (Ak.ecells es)):Rk.Eds w w.heap.size a es:=by
 intro j hj
 rcases h.2 with⟨e,hn⟩|⟨g,cap,cur,e,h3,h4,h5,h6,h7,h8⟩
 ·omega
 simp only[Value.slice.injEq]at e;obtain⟨rfl,-,rfl⟩:=e;have hk:=Ak.ecells_at es j hj;rw[<-h8,List.getElem?_take,List.getElem?_take,if_pos (by omega),if_pos (by omega),Array.getElem?_toList,Array.getElem?_toList]at hk;refine⟨g,0,rfl,(Array.getElem?_eq_some_iff.1 h4).1, ?_, ?_⟩
 ·simp only[World.cell?,h4,Nat.zero_add];exact hk.1
 simp only[World.cell?,h4,Nat.zero_add];exact hk.2
theorem Ak.own_shape {w:World}{B:Nat}{e:TypeId}{size:Nat}{v:Value}{n:Nat}{cs:List Value}(h:w.ownsRow B e size v n cs):∃a c,v=.slice a n c:=by
 rcases h.2 with⟨rfl,rfl⟩|⟨g,cap,cur,rfl,_⟩
 ·exact⟨none,0,rfl⟩
 exact⟨_,_,rfl⟩
theorem Tryz.round_free (n:Nat)(a:Option Addr)(c:Nat)(rs:List (Int×Int))(w:World)(hE:Rk.Eds w w.heap.size a rs)(hm:rs.length<=1000000):
  Calls Tryz.prog 73 #[.int .i64 (n:Int),.slice a rs.length c] w λe w'=>∃la ln lc err,e=.returned (.tuple #[.slice la ln lc,.int .i64 err])/\(decide (err=0)&&decide (ln=0))=Ac.freeB n rs/\Below w.heap.size w w':=by
 unfold Ac.freeB
 split
 ·next h=>
  refine(Tryz.round_err n _ a c rs w hE (by omega) rfl h).mono λe w' ⟨h1,h2⟩=>⟨none,0,0,Rk.chk n rs,h1, ?_,h2⟩;simp[h]
 next h=>
 have h0:Rk.chk n rs=0:=Decidable.not_not.1 h;obtain⟨k,es,hk1,hk,rfl,hl,hes⟩:=Rk.chk_ok h0;obtain rfl:n=k:=by omega
 have key:=Tryz.round_ok n a c es w hk hes hE (by rw[Rk.up_length]at hm;omega) h0
 have hd:((Rk.up es).map λe=>(e.1.toNat,e.2.toNat))=es:=by
  rw[Rk.up,List.map_map];exact(List.map_congr_left λe _=>by simp).trans (List.map_id es)
 rw[Rk.up_length,hd];refine key.mono λe w' ⟨v,he,hown,hb⟩=> ?_;obtain⟨la,lc,rfl⟩:=Ak.own_shape hown;refine⟨la,_,lc,0,he, ?_,hb⟩;rw[decide_eq_true rfl,Bool.true_and]
 cases (List.range n).filter (λi=>Rk.lead es i i)<;>rfl
def Ac.V0:Ac.Vs:=⟨.slice none 0 0,.slice none 0 0,.slice none 0 0,.slice none 0 0,.slice none 0 0,.slice none 0 0⟩
def Ac.UA (U:Nat->Ac.Vs)(i:Nat):Ac.Vs:=if i=0 then Ac.V0 else U (i-1)
theorem Ak.zero_own (w:World):(w.alloc (.cells #[.int .i64 0,.int .i64 0,.int .i64 0,.int .i64 0,.int .i64 0,.int .i64 0,.slice none 0 0,.slice none 0 0,.slice none 0 0,.slice none 0 0,.slice none 0 0,.slice none 0 0] 32)).ownsRow w.heap.size 32 12 (.slice (some ⟨w.heap.size,0,none⟩) 1 1) 1 [.int .i64 0,.int .i64 0,.int .i64 0,.int .i64 0,.int .i64 0,.int .i64 0,.slice none 0 0,.slice none 0 0,.slice none 0 0,.slice none 0 0,.slice none 0 0,.slice none 0 0]:=
 ⟨rfl,.inr ⟨w.heap.size,1,#[.int .i64 0,.int .i64 0,.int .i64 0,.int .i64 0,.int .i64 0,.int .i64 0,.slice none 0 0,.slice none 0 0,.slice none 0 0,.slice none 0 0,.slice none 0 0,.slice none 0 0],rfl,Nat.le_refl _,heap_alloc_new w _,Nat.le_refl _,by unfold maxLen;omega,rfl,rfl⟩⟩
theorem Ak.rows_of {W:World}{B n c gk:Nat}{T:Ac}{U:Nat->Ac.Vs}(h:W.ownsRow B 32 12 (.slice (some ⟨gk,0,none⟩) (1+n) c) (1+n) ([.int .i64 0,.int .i64 0,.int .i64 0,.int .i64 0,.int .i64 0,.int .i64 0,.slice none 0 0,.slice none 0 0,.slice none 0 0,.slice none 0 0,.slice none 0 0,.slice none 0 0]++T.kcells U))(_hn:T.ks.length=n):∀i (hi:i<T.around.length),Ac.Row W gk (i*12) (Ac.row T.around[i] (Ac.UA U i)):=by
 intro i hi k hk;have hk12:k<12:=by simpa [Ac.row]using hk
 have hc:=h.cells (g:=gk) rfl (i*12+k);rw[Go.WideShapes.add_plain,Nat.zero_add]at hc;apply hc
 cases i with
 |zero=>
  rw[Nat.zero_mul,Nat.zero_add,List.getElem?_append_left (by simpa using hk12)]
  rcases(by omega:k=0∨k=1∨k=2∨k=3∨k=4∨k=5∨k=6∨k=7∨k=8∨k=9∨k=10∨k=11)with rfl|rfl|rfl|rfl|rfl|rfl|rfl|rfl|rfl|rfl|rfl|rfl<;>rfl
 |succ i=>
  have hi':i<T.ks.length:=by simpa [Ac.around]using hi
  rw[List.getElem?_append_right (by simp;omega)];have e1:(i+1)*12+k-([.int .i64 0,.int .i64 0,.int .i64 0,.int .i64 0,.int .i64 0,.int .i64 0,.slice none 0 0,.slice none 0 0,.slice none 0 0,.slice none 0 0,.slice none 0 0,.slice none 0 0]:List Value).length=i*12+k:=by simp;omega
  rw[e1,Ac.kcells_at T U i k hi' hk12];rfl
end Go.Proofs
namespace Go.Proofs
open Go.RowKit
theorem Rk.sweep_take {n:Nat} :∀(es:List (Nat×Nat)) (bs:List Bool),(∀e,e∈es->e.1<n/\e.2<n)->(Rk.sweep es bs).take n=Rk.sweep es (bs.take n)
 | [],_,_=>rfl
 |e::es,bs,h=>by
  have h1:=h e List.mem_cons_self;rw[Rk.sweep,Rk.sweep,Rk.sweep_take es _ (λx hx=>h x (List.mem_cons_of_mem _ hx))]
  congr 1
  rw[List.getElem?_take_of_lt h1.1]
  split
  ·rw[List.take_set]
  rfl
theorem Rk.sweeps_take {n:Nat}{es:List (Nat×Nat)}(h:∀e,e∈es->e.1<n/\e.2<n):∀(k:Nat) (bs:List Bool),(Rk.sweeps es k bs).take n=Rk.sweeps es k (bs.take n)
 |0,_=>rfl
 |k+1,bs=>by rw[Rk.sweeps,Rk.sweeps,Rk.sweeps_take h k,Rk.sweep_take es bs h]
theorem Nt.way_sweep {fs:List (Nat×Nat)}{n a:Nat}(hf:∀e,e∈fs->e.2<n):∀(es:List (Nat×Nat)) (bs:List Bool),(∀e,e∈es->e∈fs)->Rk.Way fs n a bs->Rk.Way fs n a (Rk.sweep es bs)
 | [],_,_,h=>h
 |e::es,bs,hs,h=>by
  rw[Rk.sweep];refine Nt.way_sweep hf es _ (λx hx=>hs x (List.mem_cons_of_mem _ hx)) ?_
  split
  ·next hx=>exact h.mark (hs e List.mem_cons_self) hx (hf e (hs e List.mem_cons_self))
  exact h
theorem Nt.way_sweeps {fs:List (Nat×Nat)}{n a:Nat}(hf:∀e,e∈fs->e.2<n):∀(k:Nat) (bs:List Bool),Rk.Way fs n a bs->Rk.Way fs n a (Rk.sweeps fs k bs)
 |0,_,h=>h
 |k+1,bs,h=>Nt.way_sweeps hf k _ (Nt.way_sweep hf fs bs (λ_ h=>h) h)
theorem Nt.sweeps_met {es:List (Nat×Nat)}{n a:Nat}(hes:∀e,e∈es->e.1<n/\e.2<n)(ha:a<n):Rk.sweeps es n ((List.replicate n false).set a true)=(List.range n).map (Rk.met es a):=by
 refine(Nt.way_sweeps (λe h=>(hes e h).2) n _ (Rk.Way.start es ha)).done ?_;refine Rk.sweeps_shut n _ (λe h=>by simpa using(hes e h).2) ?_;have:=Rk.left_le ((List.replicate n false).set a true);simpa using this
theorem Nt.sweeps_long {es:List (Nat×Nat)}{n a N:Nat}(hes:∀e,e∈es->e.1<n/\e.2<n)(ha:a<n)(hN:n<=N)(i:Nat)(hi:i<n):(Rk.sweeps es n ((List.replicate N false).set a true))[i]? =some (Rk.met es a i):=by
 have h:=Rk.sweeps_take hes n ((List.replicate N false).set a true);rw[List.take_set,List.take_replicate,Nat.min_eq_left hN,Nt.sweeps_met hes ha]at h;rw[<-List.getElem?_take_of_lt hi,h];simp[hi]
def Nt.back (es:List (Nat×Nat)):List (Nat×Nat):=es.map λe=>(e.2,e.1)
theorem Nt.met_back (es:List (Nat×Nat))(a b:Nat):Rk.met (Nt.back es) b a=Rk.met es a b:=by
 rw[Bool.eq_iff_iff,Rk.met_iff,Rk.met_iff];exact Rk.back_iff es a b
theorem Nt.back_lt {es:List (Nat×Nat)}{n:Nat}(hes:∀e,e∈es->e.1<n/\e.2<n):∀e,e∈Nt.back es->e.1<n/\e.2<n:=by
 intro e he;obtain⟨x,hx,rfl⟩:=List.mem_map.1 he;have:=hes x hx;exact⟨this.2,this.1⟩
theorem Nt.edges_lt {ns:List Nd}{fs:List Fl}(h:∀f,f∈fs->0<=f.fr/\f.fr<ns.length/\0<=f.to/\f.to<ns.length):∀e,e∈Nt.edges fs->e.1<ns.length/\e.2<ns.length:=by
 intro e he;obtain⟨f,hf,rfl⟩:=List.mem_map.1 he;have:=h f hf;exact⟨by show f.fr.toNat<_;omega,by show f.to.toNat<_;omega⟩
theorem Nt.edges_get (fs:List Fl)(k:Nat)(h:k<fs.length):(Nt.edges fs)[k]'(by simpa [Nt.edges]using h)=(fs[k].fr.toNat,fs[k].to.toNat):=by simp[Nt.edges]
theorem Nt.edges_length (fs:List Fl):(Nt.edges fs).length=fs.length:=by simp[Nt.edges]
theorem Nt.back_length (es:List (Nat×Nat)):(Nt.back es).length=es.length:=by simp[Nt.back]
end Go.Proofs
namespace Go.Proofs
open Go.RowKit Go.Shelf
namespace Ac
structure OwnB (w:World)(B e:Nat)(V:Vs)(T:Ac):Prop where
 t:Tm.Lies w B e V.t T.t
 c:∃a cap,V.c=.slice a T.cs.length cap/\Tms w B e a T.cs
 n:∃a cap,V.n=.slice a T.ns.length cap/\Nt.Nds w B e a T.ns
 f:∃a cap,V.f=.slice a T.fs.length cap/\Nt.Fls w B e a T.fs
theorem OwnB.keep {w w':World}{B e:Nat}{V:Vs}{T:Ac}(h:OwnB w B e V T)(hk:∀k,k<B->w'.heap[k]? =w.heap[k]?):OwnB w' B e V T:=by
 obtain⟨h1,⟨a2,c2,e2,h2⟩,⟨a4,c4,e4,h4⟩,⟨a5,c5,e5,h5⟩⟩:=h;exact⟨h1.keep hk,⟨a2,c2,e2,h2.keep hk⟩,⟨a4,c4,e4,nds_keep h4 hk⟩,⟨a5,c5,e5,fls_keep h5 hk⟩⟩
theorem Own.ownB {w:World}{B e:Nat}{V:Vs}{T:Ac}(h:Own w B e V T)(vk vl:Value):OwnB w B e ⟨V.t,V.c,vk,vl,V.n,V.f⟩ T:=⟨h.t,h.c,h.n,h.f⟩
def LksP (w:World)(P:Nat->Prop)(v:Value)(ls:List (Int×Int)):Prop:=∃a cap,v=.slice a ls.length cap/\
 ∀j (h:j<ls.length),∃g off,a=some ⟨g,off,none⟩/\P g/\w.cell? ⟨g,off+j*2,none⟩=some (.int .i64 ls[j].1)/\w.cell? ⟨g,off+j*2+1,none⟩=some (.int .i64 ls[j].2)
theorem LksP.keep {w w':World}{P P':Nat->Prop}{v:Value}{ls:List (Int×Int)}(h:LksP w P v ls)(hk:∀k,P k->w'.heap[k]? =w.heap[k]?)(hP:∀k,P k->P' k):LksP w' P' v ls:=by
 obtain⟨a,cap,hv,h⟩:=h;refine⟨a,cap,hv,λj hj=> ?_⟩;obtain⟨g,off,ha,hg,h0,h1⟩:=h j hj;have hc:∀o,w'.cell? ⟨g,o,none⟩=w.cell? ⟨g,o,none⟩:=λo=>World.cell?_of_block (w:=w) (hk g hg);exact⟨g,off,ha,hP g hg,by rw[hc];exact h0,by rw[hc];exact h1⟩
def LiesP (w:World)(B e:Nat)(P:Nat->Prop):Nat->Vs->Ac->Prop
 |0,_,_=>False
 |d+1,V,T=>OwnB w B e V T/\LksP w P V.l T.ls/\∃a cap,V.k=.slice a T.ks.length cap/\∀j (h:j<T.ks.length),∃g off U,a=some ⟨g,off,none⟩/\P g/\Row w g (off+j*12) (row T.ks[j] U)/\LiesP w B e P d U T.ks[j]
theorem LiesP.keep {w w':World}{B e:Nat}{P P':Nat->Prop}(hB:∀k,k<B->w'.heap[k]? =w.heap[k]?)(hk:∀k,P k->w'.heap[k]? =w.heap[k]?)(hP:∀k,P k->P' k):∀{d:Nat} {V:Vs} {T:Ac},LiesP w B e P d V T->LiesP w' B e P' d V T
 |0,_,_,h=>h.elim
 |d+1,V,T,h=>by
  obtain⟨ho,hl,a,cap,hv,h⟩:=h;refine⟨ho.keep hB,hl.keep hk hP,a,cap,hv,λj hj=> ?_⟩;obtain⟨g,off,U,ha,hg,hr,h1⟩:=h j hj;exact⟨g,off,U,ha,hP g hg,hr.keep (hk g hg),LiesP.keep hB hk hP h1⟩
theorem LiesP.lies {w:World}{B B' e:Nat}{P:Nat->Prop}(hB:B<=B')(hP:∀k,P k->k<B'):∀{d:Nat} {V:Vs} {T:Ac},LiesP w B e P d V T->Lies w B' e d V T
 |0,_,_,h=>h.elim
 |d+1,V,T,h=>by
  obtain⟨⟨h1,⟨a2,c2,e2,h2⟩,⟨a4,c4,e4,h4⟩,⟨a5,c5,e5,h5⟩⟩,⟨a3,c3,e3,h3⟩,a,cap,hv,h⟩:=h;refine⟨⟨h1.wider hB,⟨a2,c2,e2,h2.wider hB⟩,⟨a3,c3,e3,λj hj=> ?_⟩,⟨a4,c4,e4,h4.wider hB⟩,⟨a5,c5,e5,h5.wider hB⟩⟩,a,cap,hv,λj hj=> ?_⟩
  ·obtain⟨g,off,ha,hg,q0,q1⟩:=h3 j hj
   exact⟨g,off,ha,hP g hg,q0,q1⟩
  obtain⟨g,off,U,ha,hg,hr,h1⟩:=h j hj;exact⟨g,off,U,ha,hP g hg,hr,LiesP.lies hB hP h1⟩
theorem LiesP.upto {w:World}{B e:Nat}{P:Nat->Prop} :∀{d d':Nat} {V:Vs} {T:Ac},LiesP w B e P d V T->d<=d'->LiesP w B e P d' V T
 |0,_,_,_,h,_=>h.elim
 |d+1,0,_,_,_,h'=>by omega
 |d+1,d'+1,V,T,h,h'=>by
  obtain⟨ho,hl,a,cap,hv,h⟩:=h;refine⟨ho,hl,a,cap,hv,λj hj=> ?_⟩;obtain⟨g,off,U,ha,hg,hr,h1⟩:=h j hj;exact⟨g,off,U,ha,hg,hr,LiesP.upto h1 (by omega)⟩
theorem LiesP.shape {w:World}{B e d:Nat}{P:Nat->Prop}{V:Vs}{T:Ac}(h:LiesP w B e P d V T):∃a6 c6 a7 c7 a8 c8 a9 c9 a10 c10 a11 c11,V=⟨.slice a6 T.t.ks.length c6,.slice a7 T.cs.length c7,.slice a8 T.ks.length c8,.slice a9 T.ls.length c9,.slice a10 T.ns.length c10,.slice a11 T.fs.length c11⟩:=by
 cases d with
 |zero=>exact h.elim
 |succ d=>
  obtain⟨ho,⟨a9,c9,e9,_⟩,a8,c8,e8,_⟩:=h;obtain⟨a6,c6,e6⟩:=ho.t.shape;obtain⟨a7,c7,e7,_⟩:=ho.c;obtain⟨a10,c10,e10,_⟩:=ho.n;obtain⟨a11,c11,e11,_⟩:=ho.f;refine⟨a6,c6,a7,c7,a8,c8,a9,c9,a10,c10,a11,c11, ?_⟩
  cases V
  simp only at e6 e7 e8 e9 e10 e11;rw[e6,e7,e8,e9,e10,e11]
theorem LiesP.ones {w:World}{B e d:Nat}{P:Nat->Prop}{V:Vs}{T:Ac}(h:LiesP w B e P d V T):(row T V).all (·.oneCell')=true:=by
 obtain⟨a6,c6,a7,c7,a8,c8,a9,c9,a10,c10,a11,c11,rfl⟩:=h.shape;simp[row,Value.oneCell']
end Ac
theorem Ak.rows_ne {X:World}{B B':Nat}{e e':TypeId}{s s':Nat}{v v':Value}{n n':Nat}{cs cs':List Value}(h:X.ownsRow B e s v n cs)(h':X.ownsRow B' e' s' v' n' cs')(hne:e≠e'){k:Nat}(hk:v.ownBlock=some k):v'.ownBlock≠some k:=by
 rcases h.2 with⟨rfl,_⟩|⟨g,cap,cur,rfl,_,hg,_⟩
 ·cases hk
 have e2:g=k:=Option.some.inj hk;subst e2
 rcases h'.2 with⟨rfl,_⟩|⟨g',cap',cur',rfl,_,hg',_⟩
 ·simp[Value.ownBlock]
 intro e1;have e3:g'=g:=Option.some.inj e1;subst e3;rw[hg']at hg
 cases hg
 exact hne rfl
theorem Ak.row_lt {X:World}{B:Nat}{e:TypeId}{s:Nat}{v:Value}{n:Nat}{cs:List Value}(h:X.ownsRow B e s v n cs){k:Nat}(hk:v.ownBlock=some k):B<=k/\k<X.heap.size:=by
 rcases h.2 with⟨rfl,_⟩|⟨g,cap,cur,rfl,hb,hg,_⟩
 ·cases hk
 have e2:g=k:=Option.some.inj hk;subst e2;exact⟨hb,(Array.getElem?_eq_some_iff.1 hg).1⟩
theorem Ak.own_kept {w w':World}{B:Nat}{e:TypeId}{size:Nat}{v:Value}{n:Nat}{cs:List Value}(h:w.ownsRow B e size v n cs)(hb:∀k,v.ownBlock=some k->w'.heap[k]? =w.heap[k]?):w'.ownsRow B e size v n cs:=
 ⟨h.1,h.2.imp id fun⟨g,cap,cur,hv,h1,h2,h3⟩=>⟨g,cap,cur,hv,h1,(hb g (by rw[hv];rfl)).trans h2,h3⟩⟩
def Ak.kCells (qs:List (Ac×Ac.Vs)):List Value:=qs.flatMap λq=>(Ac.row q.1 q.2).toList
theorem Ak.kCells_append (a b:List (Ac×Ac.Vs)):Ak.kCells (a++b)=Ak.kCells a++Ak.kCells b:=by simp[Ak.kCells]
theorem Ak.ecells_append (a b:List (Int×Int)):Ak.ecells (a++b)=Ak.ecells a++Ak.ecells b:=by simp[Ak.ecells]
theorem Ak.kCells_at:∀(qs:List (Ac×Ac.Vs)) (j i:Nat) (h:j<qs.length) (hi:i<12),(Ak.kCells qs)[j*12+i]? =some ((Ac.row qs[j].1 qs[j].2)[i]'(by simpa [Ac.row]using hi))
 | [],j,_,h,_=>by simp at h
 |q::r,0,i,_,hi=>by
  have e:Ak.kCells (q::r)=(Ac.row q.1 q.2).toList++Ak.kCells r:=by simp[Ak.kCells]
  rw[e,List.getElem?_append_left (by simp[Ac.row];omega),Nat.zero_mul,Nat.zero_add,Array.getElem?_toList];exact Array.getElem?_eq_getElem _
 |q::r,j+1,i,h,hi=>by
  have e:Ak.kCells (q::r)=(Ac.row q.1 q.2).toList++Ak.kCells r:=by simp[Ak.kCells]
  have hl:(Ac.row q.1 q.2).toList.length=12:=rfl;rw[e,List.getElem?_append_right (by rw[hl];omega),hl,show(j+1)*12+i-12=j*12+i by omega];exact Ak.kCells_at r j i (by simpa using h) hi
def Ak.Far (b n:Nat)(vK vL:Value)(k:Nat):Prop:=b+3<=k/\k<n/\vK.ownBlock≠some k/\vL.ownBlock≠some k
structure Ak.Rf (w:World)(B e:Nat)(bx:Array Value)(T:Ac)(V:Ac.Vs)(vK vL:Value)(qs:List (Ac×Ac.Vs))(xs:List (Int×Int))(X:World):Prop where
 box:X.heap[w.heap.size]? =some (.cells bx 32 (0,0))
 res:X.heap[w.heap.size+1]? =some (.cells #[.int .i64 0,.int .i64 0,.int .i64 0,.int .i64 0,.int .i64 0,.int .i64 0,.slice none 0 0,.slice none 0 0,.slice none 0 0,.slice none 0 0,.slice none 0 0,.slice none 0 0] 44 (0,0))
 var:X.heap[w.heap.size+1+1]? =some (.cells (Ac.row T ⟨V.t,V.c,vK,vL,V.n,V.f⟩) 44 (0,0))
 ownK:X.ownsRow (w.heap.size+3) 44 12 vK qs.length (Ak.kCells qs)
 ownL:X.ownsRow (w.heap.size+3) 70 2 vL xs.length (Ak.ecells xs)
 lies:∀q∈qs,∃d,Ac.LiesP X B e (Ak.Far w.heap.size X.heap.size vK vL) d q.2 q.1
 below:Below w.heap.size w X
section
variable {w:World} {B e:Nat} {bx:Array Value} {T:Ac} {V:Ac.Vs} {vK vL:Value} {qs:List (Ac×Ac.Vs)} {xs:List (Int×Int)} {X X' W6:World}
theorem Ak.Rf.lt (h:Ak.Rf w B e bx T V vK vL qs xs X):w.heap.size+1+1<X.heap.size:=(Array.getElem?_eq_some_iff.1 h.var).1
theorem Ak.Rf.step (h:Ak.Rf w B e bx T V vK vL qs xs X)(hB:B<=w.heap.size)(hb:Below X.heap.size X X'):Ak.Rf w B e bx T V vK vL qs xs X':=by
 have hz:=h.lt
 exact⟨(hb.block _ (by omega)).trans h.box,(hb.block _ (by omega)).trans h.res,(hb.block _ hz).trans h.var,Ak.own_kept h.ownK λk hk=>hb.block k (Ak.row_lt h.ownK hk).2,Ak.own_kept h.ownL λk hk=>hb.block k (Ak.row_lt h.ownL hk).2,
  λq hq=>by obtain⟨d,hd⟩:=h.lies q hq;exact⟨d,hd.keep (λk hk=>hb.block k (by omega)) (λk hk=>hb.block k hk.2.1) λk hk=>⟨hk.1,Nat.lt_of_lt_of_le hk.2.1 hb.size,hk.2.2⟩⟩,h.below.trans (hb.mono h.below.size)⟩
theorem Ak.Rf.midL (h:Ak.Rf w B e bx T V vK vL qs xs X)(g6:X.grownBy W6 vL.ownBlock):W6.heap[w.heap.size+1+1]? =some (.cells (Ac.row T ⟨V.t,V.c,vK,vL,V.n,V.f⟩) 44 (0,0)):=
 (g6.block _ h.lt (by intro e;have:=(Ak.row_lt h.ownL e.symm).1;omega)).trans h.var
theorem Ak.Rf.midK (h:Ak.Rf w B e bx T V vK vL qs xs X)(g6:X.grownBy W6 vK.ownBlock):W6.heap[w.heap.size+1+1]? =some (.cells (Ac.row T ⟨V.t,V.c,vK,vL,V.n,V.f⟩) 44 (0,0)):=
 (g6.block _ h.lt (by intro e;have:=(Ak.row_lt h.ownK e.symm).1;omega)).trans h.var
theorem Ak.Rf.kid {x:Ac}{U:Ac.Vs}{g cap H:Nat}(h:Ak.Rf w B e bx T V vK vL qs xs X)(hB:B<=w.heap.size)(hx:∃d,Ac.LiesP X B e (Ak.Far w.heap.size X.heap.size vK vL) d U x)(hH:X.heap.size=H)
  (o6:W6.ownsRow (w.heap.size+3) 44 12 (.slice (some ⟨g,0,none⟩) (qs.length+1) cap) (qs.length+1) (Ak.kCells qs++(Ac.row x U).toList)) (g6:X.grownBy W6 vK.ownBlock) (hg:vK.ownBlock=some g∨g=H):
  Ak.Rf w B e bx T V (.slice (some ⟨g,0,none⟩) (qs.length+1) cap) vL (qs++ [(x,U)]) xs (W6.setCell ⟨w.heap.size+1+1,8,none⟩ (.slice (some ⟨g,0,none⟩) (qs.length+1) cap)):=by
 have hz:=h.lt;have hv:=h.midK g6;have hk:∀k,k<w.heap.size+3->k<X.heap.size->W6.heap[k]? =X.heap[k]? :=λk h1 h2=>g6.block k h2 (by intro e;have:=(Ak.row_lt h.ownK e.symm).1;omega)
 have key:∀(d:Nat) (U:Ac.Vs) (E:Ac),Ac.LiesP X B e (Ak.Far w.heap.size X.heap.size vK vL) d U E->Ac.LiesP (W6.setCell ⟨w.heap.size+1+1,8,none⟩ (.slice (some ⟨g,0,none⟩) (qs.length+1) cap)) B e (Ak.Far w.heap.size (W6.setCell ⟨w.heap.size+1+1,8,none⟩ (.slice (some ⟨g,0,none⟩) (qs.length+1) cap)).heap.size (.slice (some ⟨g,0,none⟩) (qs.length+1) cap) vL) d U E:=λd U E hE=>
  hE.keep (λk hkB=>(Below.heap_setCell _ _ _ _ (by show k≠w.heap.size+1+1;omega)).trans (hk k (by omega) (by omega)))
   (λk hk=>(Below.heap_setCell _ _ _ _ (by have:=hk.1;show k≠w.heap.size+1+1;omega)).trans (g6.block k hk.2.1 (Ne.symm hk.2.2.1))) λk hk=>⟨hk.1,by have:=g6.size;have:=hk.2.1;simp[World.setCell];omega,by
   intro e;have e':g=k:=Option.some.inj e;subst e'
   rcases hg with hg|hg
   ·exact hk.2.2.1 hg
   have:=hk.2.1;omega,hk.2.2.2⟩
 refine⟨?_, ?_, ?_, ?_, ?_, ?_, ?_⟩
 ·rw[Below.heap_setCell _ _ _ _ (by show _≠w.heap.size+1+1;omega)];exact(hk _ (by omega) (by omega)).trans h.box
 ·rw[Below.heap_setCell _ _ _ _ (by show _≠w.heap.size+1+1;omega)];exact(hk _ (by omega) (by omega)).trans h.res
 ·simp[World.setCell,Array.getElem?_modify,hv,Ac.row]
 ·rw[Ak.kCells_append,List.length_append]
  have e1:Ak.kCells [(x,U)]=(Ac.row x U).toList:=by simp[Ak.kCells]
  rw[e1];exact ownsRow_setCell_below o6 (by show w.heap.size+1+1<_;omega) _
 ·refine ownsRow_setCell_below (Ak.own_kept h.ownL λk hk1=>g6.block k (Ak.row_lt h.ownL hk1).2 ?_) (by show w.heap.size+1+1<_;omega) _
  intro e;exact Ak.rows_ne h.ownL h.ownK (by decide) hk1 e.symm
 ·intro q hq
  rcases List.mem_append.1 hq with hq|hq
  ·obtain⟨d,hd⟩:=h.lies q hq
   exact⟨d,key _ _ _ hd⟩
  rw[List.mem_singleton.1 hq];obtain⟨d,hd⟩:=hx;exact⟨d,key _ _ _ hd⟩
 exact(h.below.trans ⟨g6.os,g6.tape,g6.output,g6.size,λj hj=>hk j (by omega) (by omega)⟩).setCell (by show _<=w.heap.size+1+1;omega) _
theorem Ak.Rf.link {x:Int×Int}{g cap H:Nat}(h:Ak.Rf w B e bx T V vK vL qs xs X)(hB:B<=w.heap.size)(hH:X.heap.size=H)
  (o6:W6.ownsRow (w.heap.size+3) 70 2 (.slice (some ⟨g,0,none⟩) (xs.length+1) cap) (xs.length+1) (Ak.ecells xs++ [.int .i64 x.1,.int .i64 x.2])) (g6:X.grownBy W6 vL.ownBlock) (hg:vL.ownBlock=some g∨g=H):
  Ak.Rf w B e bx T V vK (.slice (some ⟨g,0,none⟩) (xs.length+1) cap) qs (xs++ [x]) (W6.setCell ⟨w.heap.size+1+1,9,none⟩ (.slice (some ⟨g,0,none⟩) (xs.length+1) cap)):=by
 have hz:=h.lt;have hv:=h.midL g6;have hk:∀k,k<w.heap.size+3->k<X.heap.size->W6.heap[k]? =X.heap[k]? :=λk h1 h2=>g6.block k h2 (by intro e;have:=(Ak.row_lt h.ownL e.symm).1;omega);refine⟨?_, ?_, ?_, ?_, ?_, ?_, ?_⟩
 ·rw[Below.heap_setCell _ _ _ _ (by show _≠w.heap.size+1+1;omega)];exact(hk _ (by omega) (by omega)).trans h.box
 ·rw[Below.heap_setCell _ _ _ _ (by show _≠w.heap.size+1+1;omega)];exact(hk _ (by omega) (by omega)).trans h.res
 ·simp[World.setCell,Array.getElem?_modify,hv,Ac.row]
 ·refine ownsRow_setCell_below (Ak.own_kept h.ownK λk hk1=>g6.block k (Ak.row_lt h.ownK hk1).2 ?_) (by show w.heap.size+1+1<_;omega) _
  intro e;exact Ak.rows_ne h.ownK h.ownL (by decide) hk1 e.symm
 ·rw[Ak.ecells_append,List.length_append]
  exact ownsRow_setCell_below o6 (by show w.heap.size+1+1<_;omega) _
 ·intro q hq
  obtain⟨d,hd⟩:=h.lies q hq;refine⟨d,hd.keep (λk hkB=>(Below.heap_setCell _ _ _ _ (by show k≠w.heap.size+1+1;omega)).trans (hk k (by omega) (by omega))) (λk hk=>(Below.heap_setCell _ _ _ _ (by have:=hk.1;show k≠w.heap.size+1+1;omega)).trans (g6.block k hk.2.1 (Ne.symm hk.2.2.2))) λk hk=>⟨hk.1,by have:=g6.size;have:=hk.2.1;simp[World.setCell];omega,hk.2.2.1, ?_⟩⟩;intro e;have e':g=k:=Option.some.inj e;subst e'
  rcases hg with hg|hg
  ·exact hk.2.2.2 hg
  have:=hk.2.1;omega
 exact(h.below.trans ⟨g6.os,g6.tape,g6.output,g6.size,λj hj=>hk j (by omega) (by omega)⟩).setCell (by show _<=w.heap.size+1+1;omega) _
end
theorem Ak.maxL {w:World}{B e:Nat}{P:Nat->Prop} :∀(l:List (Ac×Ac.Vs)),(∀q∈l,∃d,Ac.LiesP w B e P d q.2 q.1)->∃D,∀q∈l,Ac.LiesP w B e P D q.2 q.1
 | [],_=>⟨0,λ_ h=>by cases h⟩
 |a::l,h=>by
  obtain⟨D,hD⟩:=Ak.maxL l λq hq=>h q (by simp[hq]);obtain⟨d,hd⟩:=h a (by simp);refine⟨max D d,λq hq=> ?_⟩
  rcases List.mem_cons.1 hq with rfl|hq
  ·exact hd.upto (Nat.le_max_right _ _)
  exact(hD q hq).upto (Nat.le_max_left _ _)
theorem Ak.Rf.all {w:World}{B e:Nat}{bx:Array Value}{T:Ac}{V:Ac.Vs}{vK vL:Value}{qs:List (Ac×Ac.Vs)}{X:World}(h:Ak.Rf w B e bx T V vK vL qs T.ls X)(hB:B<=w.heap.size)(hk:qs.map (·.1)=T.ks)(ho:Ac.Own w B e V T):∃d,Ac.LiesP X B e (λk=>w.heap.size+3<=k/\k<X.heap.size) d ⟨V.t,V.c,vK,vL,V.n,V.f⟩ T:=by
 obtain⟨D,hD⟩:=Ak.maxL qs h.lies;have hlen:T.ks.length=qs.length:=by rw[<-hk];simp
 refine⟨D+1,(ho.ownB vK vL).keep λk hk=>h.below.block k (by omega), ?_, ?_⟩
 ·rcases h.ownL.2 with⟨rfl,h0⟩|⟨g,cap,cur,rfl,hb,hg,_⟩
  ·exact⟨none,0,by rw[h0],λj hj=>by omega⟩
  refine⟨_,_,rfl,λj hj=>⟨g,0,rfl,⟨hb,(Array.getElem?_eq_some_iff.1 hg).1⟩, ?_⟩⟩;obtain⟨c0,c1⟩:=Ak.ecells_at T.ls j hj
  have hc:∀o u,(Ak.ecells T.ls)[o]? =some u->X.cell? ⟨g,o,none⟩=some u:=λo u hu=>by
   have h1:=h.ownL.cells (g:=g) rfl o u hu;rw[Go.WideShapes.add_plain,Nat.zero_add]at h1;exact h1
  rw[Nat.zero_add];exact⟨hc _ _ c0,hc _ _ c1⟩
 rcases h.ownK.2 with⟨rfl,h0⟩|⟨g,cap,cur,rfl,hb,hg,_⟩
 ·exact⟨none,0,by rw[hlen,h0],λj hj=>by omega⟩
 refine⟨_,_,by rw[hlen],λj hj=> ?_⟩;have hj':j<qs.length:=by omega
 have he:T.ks[j]=qs[j].1:=by simp[<-hk]
 refine⟨g,0,qs[j].2,rfl,⟨hb,(Array.getElem?_eq_some_iff.1 hg).1⟩,λi hi=> ?_, ?_⟩
 ·have hi':i<12:=by simpa [Ac.row]using hi
  have h1:=h.ownK.cells (g:=g) rfl _ _ (Ak.kCells_at qs j i hj' hi');rw[Go.WideShapes.add_plain]at h1;rw[Nat.zero_add]at h1⊢;rw[h1]
  congr 1
  simp only[he]
 rw[he];exact(hD _ (List.getElem_mem hj')).keep (λ_ _=>rfl) (λ_ _=>rfl) λk hk=>⟨hk.1,hk.2.1⟩
end Go.Proofs
namespace Go.Proofs
open Go.RowKit Go.ChangeShapes Go.WideShapes Go.Deep
instance:Inhabited Tm:=⟨.mk 0 0 []⟩
theorem Tm.Lies.more {w:World}{B:Nat} :∀{d:Nat} {v:Value} {T:Tm},Tm.Lies w B d v T->Tm.Lies w B (d+1) v T
 |0,_,_,h=>h.elim
 |d+1,v,T,h=>by
  obtain⟨a,cap,hv,h⟩:=h;refine⟨a,cap,hv,h.elim .inl fun⟨g,off,ha,hg,hr⟩=> .inr ⟨g,off,ha,hg,λj hj=> ?_⟩⟩;obtain⟨u,h0,h1,h2,h3⟩:=hr j hj;exact⟨u,h0,h1,h2,Tm.Lies.more h3⟩
theorem Tk.cellsTerm:Tryz.prog.cellsOf 24=3:=by kernel_rfl
theorem Tk.cellsInt1:Tryz.prog.cellsOf 3=1:=by kernel_rfl
theorem Tk.cellsTerms:Tryz.prog.cellsOf 22=1:=by kernel_rfl
theorem Tk.list3 {α:Type}{l:List α}(h:l.length=3):∃a b c,l= [a,b,c]:=by
 match l,h with
 | [a,b,c],_=>exact⟨a,b,c,rfl⟩
theorem Tk.cell_lt {w:World}{a:Addr}{v:Value}(h:w.cell? a=some v):a.block<w.heap.size:=by
 rcases Nat.lt_or_ge a.block w.heap.size with h1|h1
 ·exact h1
 unfold World.cell? at h;simp[h1]at h
theorem Tm.open_term {H:Type}{enc:TypeId×Value->H}{w:World}{spare:Nat->Bool}{held:Bool} :∀(fuel:Nat) (cs:List Value) (x:DataW H×List MemPlace),DataW.trod enc Tryz.prog w 0 spare held fuel 24 cs=some x->
  ∃(T:Tm) (v:Value),cs= [.int .i64 T.op,.int .i64 T.num,v]/\Tm.Lies w w.heap.size fuel v T:=by
 intro fuel
 induction fuel using Nat.strongRecOn with
 |_ fuel ih=>
  intro cs x h;obtain⟨ys,n,rfl,hx,hl,hy,hf⟩:=DataW.trod_struct Tryz.underlying24 h;rw[Tk.cellsTerm]at hl;have hy:ys.length=3:=hy;obtain⟨c0,c1,c2,rfl⟩:=Tk.list3 hl;obtain⟨y0,y1,y2,rfl⟩:=Tk.list3 hy;have g0:DataW.trod enc Tryz.prog w 0 spare held n 3 (([c0,c1,c2].drop 0).take (Tryz.prog.cellsOf 3))= [y0,y1,y2][0]? :=hf 0 _ rfl;have g1:DataW.trod enc Tryz.prog w 0 spare held n 3 (([c0,c1,c2].drop 1).take (Tryz.prog.cellsOf 3))= [y0,y1,y2][1]? :=hf 1 _ rfl;have g2:DataW.trod enc Tryz.prog w 0 spare held n 22 (([c0,c1,c2].drop 2).take (Tryz.prog.cellsOf 22))= [y0,y1,y2][2]? :=hf 2 _ rfl;rw[Tk.cellsInt1]at g0 g1;rw[Tk.cellsTerms]at g2;obtain⟨o,e0,_⟩:=DataW.trod_int Tryz.underlying3 g0;obtain⟨m,e1,_⟩:=DataW.trod_int Tryz.underlying3 g1;obtain rfl:c0=.int .i64 o:=(List.cons.inj e0).1;obtain rfl:c1=.int .i64 m:=(List.cons.inj e1).1
  rcases DataW.trod_slice Tryz.underlying22 g2 with⟨e2,_⟩|⟨a,len,cap,elems,rest,n',hn',e2,_,_,hlc,_,hlen,hel,_,_⟩
  ·obtain rfl:c2=.slice none 0 0:=(List.cons.inj e2).1
   exact⟨.mk o m [],.slice none 0 0,rfl,none,0,rfl,.inl rfl⟩
  obtain rfl:c2=.slice (some a) len cap:=(List.cons.inj e2).1;subst hn'
  have each:∀i,i<len->∃q:Tm,∃u,w.cell? (a.add (i*3))=some (.int .i64 q.op)/\w.cell? ((a.add (i*3)).add 1)=some (.int .i64 q.num)/\w.cell? ((a.add (i*3)).add 2)=some u/\Tm.Lies w w.heap.size n' u q:=by
   intro i hi;have h1:=hel i hi;rw[Tk.cellsTerm,List.getElem?_eq_getElem (by omega)]at h1;obtain⟨cs',h2,h3⟩:=Option.bind_eq_some_iff.1 h1;obtain⟨q,u,rfl,hq⟩:=ih n' (by omega) cs' _ h3;obtain⟨_,hl3,hc⟩:=World.cells?_some h2;exact⟨q,u,by simpa [Addr.add]using hc 0 (by simp),by simpa using hc 1 (by simp),by simpa using hc 2 (by simp),hq⟩
  obtain⟨q,hq⟩:=choose_lt each;have hlen':((List.range len).map q).length=len:=by simp
  have hget:∀j (h:j<((List.range len).map q).length),((List.range len).map q)[j]=q j:=λj h=>by simp
  refine⟨.mk o m ((List.range len).map q),.slice (some a) len cap,rfl,some a,cap,by rw[show(Tm.mk o m ((List.range len).map q)).ks=(List.range len).map q from rfl,hlen'], ?_⟩
  by_cases hz:len=0
  ·subst hz;exact .inl rfl
  obtain⟨g,off,spot⟩:=a;obtain⟨_,h0,_⟩:=hq 0 (by omega);have hspot:spot=none:=by simpa [Addr.add]using World.cell?_spot h0
  subst hspot
  have hg:g<w.heap.size:=by
   have:=Tk.cell_lt h0;simpa [Addr.add]using this
  refine .inr ⟨g,off,rfl,hg,λj hj=> ?_⟩;have hj':j<((List.range len).map q).length:=hj;show∃u,w.cell? ⟨g,off+j*3,none⟩=some (.int .i64 (((List.range len).map q)[j]'hj').op)/\w.cell? ⟨g,off+j*3+1,none⟩=some (.int .i64 (((List.range len).map q)[j]'hj').num)/\w.cell? ⟨g,off+j*3+2,none⟩=some u/\Tm.Lies w w.heap.size (n'+1) u (((List.range len).map q)[j]'hj');rw[hget j hj'];rw[hlen']at hj';obtain⟨u,p0,p1,p2,p3⟩:=hq j hj';have ea:∀(c k:Nat),((⟨g,off,none⟩:Addr).add c).add k=⟨g,off+c+k,none⟩:=λc k=>by rw[Go.WideShapes.add_plain,Go.WideShapes.add_plain]
  rw[Go.WideShapes.add_plain]at p0;rw[ea]at p1 p2;exact⟨u,p0,p1,p2,p3.more⟩
end Go.Proofs
