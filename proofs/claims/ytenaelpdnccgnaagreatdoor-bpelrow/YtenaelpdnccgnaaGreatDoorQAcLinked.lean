import Derived.Test.YtenaelpdnccgnaaGreatDoorQAcLinkM
set_option maxRecDepth 100000
set_option maxHeartbeats 32000000
namespace Go.Proofs
open Go.RowKit Go.Shelf
structure Ak.Cnt (W4:World)(gi go:Nat)(n:Nat)(ls:List (Int×Int))(v:Value)(wr:World):Prop where
 ins:Ak.Ats wr gi (Ac.insL ls n)
 outs:Ak.Ats wr go (Ac.outsL ls n)
 row:wr.ownsRow W4.heap.size 113 2 v (Ac.bet ls).length (Ak.ecells (Ac.bet ls))
 but:Tk.But (λx=>x=gi∨x=go) W4 wr
theorem Ak.Cnt.below {W4 wr w':World}{gi go n:Nat}{ls:List (Int×Int)}{v:Value}(h:Ak.Cnt W4 gi go n ls v wr)(hb:Below wr.heap.size wr w'):Ak.Cnt W4 gi go n ls v w':=by
 refine⟨h.ins.keep (hb.block _ h.ins.lt),h.outs.keep (hb.block _ h.outs.lt),⟨h.row.1, ?_⟩,h.but.trans (Tk.But.of_below hb)⟩
 rcases h.row.2 with hn|⟨g,cap,cur,rfl,h3,h4,h5⟩
 ·exact .inl hn
 exact .inr ⟨g,cap,cur,rfl,h3,(hb.block g (Array.getElem?_eq_some_iff.1 h4).1).trans h4,h5⟩
theorem Ak.Cnt.count {W4 W5:World}{gi go n:Nat}{ls:List (Int×Int)}{v:Value}(h:Ak.Cnt W4 gi go n ls v W5)(hne:gi≠go)(hgi:gi<W4.heap.size)(hgo:go<W4.heap.size)(l:Int×Int)(kf kt co ci:Nat)(hf:(kf:Int)=l.1+1)(ht:(kt:Int)=l.2+1)(hf':kf<n+1)(ht':kt<n+1)(hco:(Ac.outsL ls n)[kf]? =some co)(hci:(Ac.insL ls n)[kt]? =some ci):
  Ak.Ats ((W5.setCell ⟨go,kf,none⟩ (.int .i64 ((co+1:Nat):Int))).setCell ⟨gi,kt,none⟩ (.int .i64 ((ci+1:Nat):Int))) gi (Ac.insL (ls++ [l]) n)/\Ak.Ats ((W5.setCell ⟨go,kf,none⟩ (.int .i64 ((co+1:Nat):Int))).setCell ⟨gi,kt,none⟩ (.int .i64 ((ci+1:Nat):Int))) go (Ac.outsL (ls++ [l]) n)/\
   ((W5.setCell ⟨go,kf,none⟩ (.int .i64 ((co+1:Nat):Int))).setCell ⟨gi,kt,none⟩ (.int .i64 ((ci+1:Nat):Int))).ownsRow W4.heap.size 113 2 v (Ac.bet ls).length (Ak.ecells (Ac.bet ls))/\Tk.But (λx=>x=gi∨x=go) W4 ((W5.setCell ⟨go,kf,none⟩ (.int .i64 ((co+1:Nat):Int))).setCell ⟨gi,kt,none⟩ (.int .i64 ((ci+1:Nat):Int))):=by
 have i1:Ak.Ats (W5.setCell ⟨go,kf,none⟩ (.int .i64 ((co+1:Nat):Int))) gi (Ac.insL ls n):=h.ins.keep (Below.heap_setCell _ _ _ _ hne);have o1:=h.outs.put kf (co+1);refine⟨?_, ?_,⟨h.row.1, ?_⟩, ?_⟩
 ·rw[Ac.insL_snoc ls n l kt ci ht ht' hci]
  exact i1.put kt (ci+1)
 ·rw[Ac.outsL_snoc ls n l kf co hf hf' hco]
  exact o1.keep (Below.heap_setCell _ _ _ _ (Ne.symm hne))
 ·rcases h.row.2 with hn|⟨g,cap,cur,rfl,h3,h4,h5⟩
  ·exact .inl hn
  refine .inr ⟨g,cap,cur,rfl,h3, ?_,h5⟩;rw[Below.heap_setCell _ _ _ _ (by show g≠gi;omega),Below.heap_setCell _ _ _ _ (by show g≠go;omega)];exact h4
 exact(h.but.setCell (E:=λx=>x=gi∨x=go) (p:=⟨go,kf,none⟩) (.inr rfl) _).setCell (E:=λx=>x=gi∨x=go) (p:=⟨gi,kt,none⟩) (.inl rfl) _
theorem Ac.insL_le (ls:List (Int×Int))(n k c:Nat)(h:(Ac.insL ls n)[k]? =some c):c<=ls.length:=by
 have hk:k<n+1:=by have:=(List.getElem?_eq_some_iff.1 h).1;rw[Ac.insL_length]at this;exact this
 rw[Ac.insL_at _ _ _ hk,Option.some.injEq]at h;rw[<-h];exact List.countP_le_length
theorem Ac.outsL_le (ls:List (Int×Int))(n k c:Nat)(h:(Ac.outsL ls n)[k]? =some c):c<=ls.length:=by
 have hk:k<n+1:=by have:=(List.getElem?_eq_some_iff.1 h).1;rw[Ac.outsL_length]at this;exact this
 rw[Ac.outsL_at _ _ _ hk,Option.some.injEq]at h;rw[<-h];exact List.countP_le_length
theorem Ac.linked_out {T:Ac}{j:Nat}(h:j<T.ls.length)(e:Ac.inR T.ks.length T.ls[j]=false):T.linkedB=false:=by
 have:T.ls.all (Ac.inR T.ks.length)=false:=by
  rw[List.all_eq_false];exact⟨T.ls[j],List.getElem_mem h,by rw[e];decide⟩
 unfold Ac.linkedB;rw[this]
 simp
theorem Ac.linked_not {T:Ac}{i:Nat}(h:i<T.ks.length+1)(e:T.joinedAt i=false):T.linkedB=false:=by
 have:(List.range (T.ks.length+1)).all T.joinedAt=false:=by
  rw[List.all_eq_false];exact⟨i,List.mem_range.2 h,by rw[e];decide⟩
 unfold Ac.linkedB;rw[this]
 simp
theorem Tryz.isLinked_any (d e:Nat)(T:Ac)(V:Ac.Vs)(w:World)(hT:Ac.Lies w w.heap.size e d V T)(hF:T.Fit):
  Calls Tryz.prog 48 #[.agg (Ac.row T V)] w λe w'=>e=.returned (.bool T.linkedB)/\Below w.heap.size w w':=by
 obtain⟨a,cap,hvk⟩:=hT.kids;obtain⟨la,lc,hvl,hlk⟩:=hT.own.l;obtain⟨n,hn⟩:=pE (T.ks.length);obtain⟨m,hm⟩:=pE (T.ls.length);obtain⟨R,hR⟩:=pE (T.linkedB);rw[hn]at hvk;rw[hm]at hvl;obtain⟨x0,x1,x2,x3,x4,x5,x6,x7,x10,x11,hrow⟩:∃x0 x1 x2 x3 x4 x5 x6 x7 x10 x11,Ac.row T V=#[x0,x1,x2,x3,x4,x5,x6,x7,.slice a n cap,.slice la m lc,x10,x11]:=⟨_,_,_,_,_,_,_,_,_,_,by unfold Ac.row;rw[hvk,hvl]⟩;rw[hrow,hR];obtain⟨w1,hw1⟩:=pE (w.alloc (.cells #[x0,x1,x2,x3,x4,x5,x6,x7,.slice a n cap,.slice la m lc,x10,x11] 32));have A1:=pB hw1
 have C0:w1.heap[w.heap.size]? =some (.cells #[x0,x1,x2,x3,x4,x5,x6,x7,.slice a n cap,.slice la m lc,x10,x11] 32 (0,0)):=by rw[<-hw1];exact heap_alloc_new w _
 have c8:w1.cell? ⟨w.heap.size,8,none⟩=some (.slice a n cap):=by simp[World.cell?,C0]
 have c9:w1.cell? ⟨w.heap.size,9,none⟩=some (.slice la m lc):=by simp[World.cell?,C0]
 have HM:Hid (T.ks.length=n/\T.ls.length=m/\T.linkedB=R/\V.k=.slice a n cap/\Ac.Lks w w.heap.size la T.ls):=⟨hn,hm,hR,hvk,hlk⟩;have HT:Hid (Ac.Lies w w.heap.size e d V T/\T.Fit):=⟨hT,hF⟩;have H1:Hid (w.alloc (.cells #[x0,x1,x2,x3,x4,x5,x6,x7,.slice a n cap,.slice la m lc,x10,x11] 32)=w1):=hw1;have HA:Hid (Below w.heap.size w w1/\w1.heap[w.heap.size]? =some (.cells #[x0,x1,x2,x3,x4,x5,x6,x7,.slice a n cap,.slice la m lc,x10,x11] 32 (0,0))):=⟨A1,C0⟩;have hn1:n<=1000:=by have:=hF.kl;omega
 have hm1:m<=1000:=by have:=hF.ll;omega
 clear hT hF hvk hvl hlk hn hm hR hrow hw1 A1 C0
 by_cases hn0:n=0
 ·have HF:Hid (R=false):=by show _=_;rw[<-HM.out.2.2.1];unfold Ac.linkedB;rw[HM.out.1,hn0];rfl
  subst hn0;clear hn1
  go_enter Tryz.func48,Tryz.ntmps48
  go_upto_region 1 with fail
  rw[H1.out];go_wp2;go_ret;exact⟨Tk.ret_bool HF.out.symm,HA.out.1⟩
 have dn:((n:Int)==0)=false:=by simp;omega
 by_cases hm40:40<m
 ·have HF:Hid (R=false):=by
   show _=_;rw[<-HM.out.2.2.1];unfold Ac.linkedB;rw[HM.out.2.1,decide_eq_false (by omega:¬m<=40)]
   simp
  have dm:decide (40<(m:Int))=true:=decide_eq_true (by omega);have dm':decide (40<m)=true:=decide_eq_true hm40;clear hn1 hm1 hn0
  go_enter Tryz.func48,Tryz.ntmps48
  go_upto_region 1 with fail
  rw[H1.out];go_wp2;go_ret;exact⟨Tk.ret_bool HF.out.symm,HA.out.1⟩
 have dm:decide (40<(m:Int))=false:=decide_eq_false (by omega);have dm':decide (40<m)=false:=decide_eq_false hm40;have hm4:m<=40:=by omega
 have hn0':0<n:=by omega
 -- the kids' places
 cases d with
 |zero=>exact HT.out.1.elim
 |succ d=>
 haveI:Inhabited Ac.Vs:=⟨⟨.bool false,.bool false,.bool false,.bool false,.bool false,.bool false⟩⟩
 have each:∀j,j<n->∃U:Ac.Vs,∃(hj:j<T.ks.length) (g off:Nat),a=some ⟨g,off,none⟩/\g<w.heap.size/\Ac.Row w g (off+j*12) (Ac.row T.ks[j] U)/\Ac.Lies w w.heap.size e d U T.ks[j]:=λj hj=>by
  have hj':j<T.ks.length:=by rw[HM.out.1];exact hj
  obtain⟨g,off,U,h1,h2,h3,h4⟩:=HT.out.1.kid HM.out.2.2.2.1 j hj';exact⟨U,hj',g,off,h1,h2,h3,h4⟩
 obtain⟨U,hU⟩:=Go.Deep.choose_lt each;obtain⟨h0',g,off,rfl,hg,-,-⟩:=hU 0 hn0'
 have HU:Hid (∀j (hj:j<n),∃h:j<T.ks.length,Ac.Row w g (off+j*12) (Ac.row T.ks[j] (U j))/\Ac.Lies w w.heap.size e d (U j) T.ks[j]):=λj hj=>by
  obtain⟨h1,g2,off2,h2,h3,h4,h5⟩:=hU j hj;simp only[Option.some.injEq,Addr.mk.injEq,and_true]at h2;obtain⟨rfl,rfl⟩:=h2;exact⟨h1,h4,h5⟩
 have HK:Hid ((T.kcells U).length=n*12/\(∀j u,(T.kcells U)[j]? =some u->w.cell? ((⟨g,off,none⟩:Addr).add j)=some u)/\(∀u∈T.kcells U,u.oneCell'=true)/\g<w.heap.size):=by
  refine⟨by rw[Ac.kcells_len,HM.out.1],λj u hj=> ?_,Ac.kcells_one (w:=w) (B:=w.heap.size) (e:=e) (d:=d) λj hj=>(HU.out j (by rw[<-HM.out.1];exact hj)).2.2,hg⟩
  have hjl:j<n*12:=by
   have:=(List.getElem?_eq_some_iff.1 hj).1;rw[Ac.kcells_len,HM.out.1]at this;exact this
  obtain⟨hjk,hr,_⟩:=HU.out (j/12) (by omega);have h1:=Ac.kcells_at T U (j/12) (j%12) hjk (by omega);rw[show j/12*12+j%12=j by omega,hj,Option.some.injEq]at h1;have h2:=hr (j%12) (by simp[Ac.row];omega);rw[Go.WideShapes.add_plain,h1,<-h2]
  congr 2
  omega
 clear each hU hn0 hg h0';obtain⟨i0,hi0,hz0,hz1,hz2⟩:=info_parts Ak.infoAct
 go_enter Tryz.func48,Tryz.ntmps48
 go_upto_region 3 with fail
 rw[H1.out];have HZ:Hid _:=Ak.zero_own w1
 have SB:Hid ((∀j u,(T.kcells U)[j]? =some u->(w1.alloc (.cells #[.int .i64 0,.int .i64 0,.int .i64 0,.int .i64 0,.int .i64 0,.int .i64 0,.slice none 0 0,.slice none 0 0,.slice none 0 0,.slice none 0 0,.slice none 0 0,.slice none 0 0] 32)).cell? ((⟨g,off,none⟩:Addr).add j)=some u)/\w1.heap.size<=(w1.alloc (.cells #[.int .i64 0,.int .i64 0,.int .i64 0,.int .i64 0,.int .i64 0,.int .i64 0,.slice none 0 0,.slice none 0 0,.slice none 0 0,.slice none 0 0,.slice none 0 0,.slice none 0 0] 32)).heap.size):=by
  refine⟨λj u hj=> ?_,by simp⟩;have h1:=HK.out.2.1 j u hj;rw[Go.WideShapes.add_plain]at h1⊢;have b2:Below w.heap.size w (w1.alloc (.cells #[.int .i64 0,.int .i64 0,.int .i64 0,.int .i64 0,.int .i64 0,.int .i64 0,.slice none 0 0,.slice none 0 0,.slice none 0 0,.slice none 0 0,.slice none 0 0,.slice none 0 0] 32)):=HA.out.1.alloc HA.out.1.size _;rw[b2.cell (p:=⟨g,off+j,none⟩) HK.out.2.2.2];exact h1
 have c8':(w1.alloc (.cells #[.int .i64 0,.int .i64 0,.int .i64 0,.int .i64 0,.int .i64 0,.int .i64 0,.slice none 0 0,.slice none 0 0,.slice none 0 0,.slice none 0 0,.slice none 0 0,.slice none 0 0] 32)).cell? ⟨w.heap.size,8,none⟩=some (.slice (some ⟨g,off,none⟩) n cap):=by
  have hlt:w.heap.size<w1.heap.size:=(Array.getElem?_eq_some_iff.1 HA.out.2).1;rw[World.cell?_of_block (w:=w1) (Below.heap_alloc _ _ _ hlt)];exact c8
 go_wp2_with (at_builtin;refine wpList_append_own _ rfl _ _ 25 rfl w1.heap.size 32 i0 (.agg #[.int .i64 0,.int .i64 0,.int .i64 0,.int .i64 0,.int .i64 0,.int .i64 0,.slice none 0 0,.slice none 0 0,.slice none 0 0,.slice none 0 0,.slice none 0 0,.slice none 0 0]) 12 192 Tryz.underlying25 hi0 hz0 hz1 hz2 rfl (by decide) (.slice (some ⟨w1.heap.size,0,none⟩) 1 1) 1 [.int .i64 0,.int .i64 0,.int .i64 0,.int .i64 0,.int .i64 0,.int .i64 0,.slice none 0 0,.slice none 0 0,.slice none 0 0,.slice none 0 0,.slice none 0 0,.slice none 0 0] rfl HZ.out ⟨g,off,none⟩ n cap (T.kcells U) rfl HK.out.1 SB.out.1 HK.out.2.2.1 ?c3 ?c4 SB.out.2 ?_)
 case c3=>unfold maxLen;omega
 case c4=>omega
 intro v3 W3 own3 g3 _;obtain⟨ka,kc,rfl⟩:=Ak.own_shape own3
 obtain⟨kb,rfl,hgk⟩:∃kb,ka=some ⟨kb,0,none⟩/\w1.heap.size<=kb:=by
  rcases own3.2 with⟨e1,e2⟩|⟨g',cap',cur,e1,h3,_⟩
  ·omega
  simp only[Value.slice.injEq]at e1;exact⟨g',e1.1,h3⟩
 have hlt1:w.heap.size<w1.heap.size:=(Array.getElem?_eq_some_iff.1 HA.out.2).1
 have hX3:W3.heap[w.heap.size]? =w1.heap[w.heap.size]? :=by
  rw[g3.block w.heap.size (by simp;omega) (by intro e1;simp[Value.ownBlock]at e1;omega)];exact Below.heap_alloc _ _ _ hlt1
 have hb3:Below w.heap.size w W3:=by
  refine HA.out.1.trans ⟨g3.os,g3.tape,g3.output,Nat.le_trans (by simp) g3.size,λk hk=> ?_⟩;rw[g3.block k (by simp;omega) (by intro e1;simp[Value.ownBlock]at e1;omega)];exact Below.heap_alloc _ _ _ (by omega)
 have hgk3:kb<W3.heap.size:=(own3.lt kb rfl).2;have H3:Hid (Below w.heap.size w W3/\W3.heap[w.heap.size]? =w1.heap[w.heap.size]? /\(∀i (hi:i<T.around.length),Ac.Row W3 kb (i*12) (Ac.row T.around[i] (Ac.UA U i)))/\w1.heap.size<=kb/\kb<W3.heap.size/\w.heap.size<w1.heap.size):=⟨hb3,hX3,Ak.rows_of own3 HM.out.1,hgk,hgk3,hlt1⟩;clear own3 g3 hgk hlt1 hX3 hb3 hgk3 HZ SB HK c8 c8' c9;obtain⟨N,hN⟩:=pE (1+n);have hmk:∀W:World,(Instr.makeSlice 111 (.int .i64 (N:Int)) (.int .i64 (N:Int))).run Tryz.prog W=.ok (.slice (some ⟨W.heap.size,0,none⟩) N N) (W.alloc (.cells (Ak.irow N) 3)):=Ak.make_ints N (by omega);rw[hN];have HN:Hid (1+n=N):=hN;clear hN
 go_upto_region 4 with fail
 go_cut [4,5]from 28 to 34 (λs4 s5 wx=>∃gi go:Nat,s4=.slice (some ⟨gi,0,none⟩) N N/\s5=.slice (some ⟨go,0,none⟩) N N/\Hid (gi≠go/\W3.heap.size<=gi/\W3.heap.size<=go/\Ak.Ats wx gi (List.replicate N 0)/\Ak.Ats wx go (List.replicate N 0)/\Below W3.heap.size W3 wx))
 case first=>
  have hA4:Ak.Ats ((W3.alloc (.cells (Ak.irow N) 3)).alloc (.cells (Ak.irow N) 3)).drew W3.heap.size (List.replicate N 0):=by
   have h1:=Ak.ats_new W3 N;exact h1.keep (Below.heap_alloc _ _ _ h1.lt)
  have hB4:Ak.Ats ((W3.alloc (.cells (Ak.irow N) 3)).alloc (.cells (Ak.irow N) 3)).drew (W3.heap.size+1) (List.replicate N 0):=by
   have h1:=Ak.ats_new (W3.alloc (.cells (Ak.irow N) 3)) N;have h2:Ak.Ats ((W3.alloc (.cells (Ak.irow N) 3)).alloc (.cells (Ak.irow N) 3)) (W3.heap.size+1) (List.replicate N 0):=by simpa using h1
   exact h2
  have hC4:Below W3.heap.size W3 ((W3.alloc (.cells (Ak.irow N) 3)).alloc (.cells (Ak.irow N) 3)).drew:=(((Below.refl _ W3).alloc (Nat.le_refl _) _).alloc (by simp) _).drew;have HX4:Hid _:=And.intro hA4 (And.intro hB4 hC4);clear hA4 hB4 hC4
  go_region_law (fail)
  all_goals
   go_wp2;go_meet
   first
   |exact⟨W3.heap.size,W3.heap.size+1,rfl,rfl,by omega,Nat.le_refl _,by omega,HX4.out.1,HX4.out.2.1,HX4.out.2.2⟩
   |exact⟨W3.heap.size+1,W3.heap.size,rfl,rfl,by omega,by omega,Nat.le_refl _,HX4.out.2.1,HX4.out.1,HX4.out.2.2⟩
 case rest=>
 rename World=>W4;obtain⟨gi,go,rfl,rfl,HX4⟩:=hcut
 have H4:Hid (Below w.heap.size w W4/\W4.heap[w.heap.size]? =w1.heap[w.heap.size]? /\(∀i (hi:i<T.around.length),Ac.Row W4 kb (i*12) (Ac.row T.around[i] (Ac.UA U i)))/\kb<W3.heap.size/\w.heap.size<W3.heap.size/\W3.heap.size<=W4.heap.size):=by
  have h:=H3.out;have b:=HX4.out.2.2.2.2.2;have hlt:w.heap.size<W3.heap.size:=by omega
  exact⟨h.1.trans (b.mono h.1.size),(b.block _ hlt).trans h.2.1,λi hi=>(h.2.2.1 i hi).keep (b.block kb h.2.2.2.2.1),h.2.2.2.2.1,hlt,b.size⟩
 have HD:Hid (∀wr,Tk.But (λx=>x=gi∨x=go) W4 wr->Below w.heap.size w wr/\wr.cell? ⟨w.heap.size,8,none⟩=some (.slice (some ⟨g,off,none⟩) n cap)/\wr.cell? ⟨w.heap.size,9,none⟩=some (.slice la m lc)/\(∀i (hi:i<T.around.length),Ac.Row wr kb (i*12) (Ac.row T.around[i] (Ac.UA U i)))):=λwr hb=>by
  have h:=H4.out;have x:=HX4.out;have s4:W3.heap.size<=W4.heap.size:=x.2.2.2.2.2.size
  have hbox:wr.heap[w.heap.size]? =some (.cells #[x0,x1,x2,x3,x4,x5,x6,x7,.slice (some ⟨g,off,none⟩) n cap,.slice la m lc,x10,x11] 32 (0,0)):=by
   rw[hb.block _ (by omega) (by rintro(e1|e1)<;>omega),h.2.1];exact HA.out.2
  refine⟨h.1.trans (hb.below h.1.size (λk hk=>by rintro(e1|e1)<;>omega)),by simp[World.cell?,hbox],by simp[World.cell?,hbox],λi hi=>(h.2.2.1 i hi).keep (hb.block kb (by omega) (by rintro(e1|e1)<;>omega))⟩
 have HW4:Hid (Ak.Cnt W4 gi go n [] (.slice none 0 0) W4/\gi≠go/\gi<W4.heap.size/\go<W4.heap.size):=by
  have x:=HX4.out;have hN:=HN.out;refine⟨⟨?_, ?_,World.ownsRow_nil _ _ _ _,Tk.But.refl _ _⟩,x.1,x.2.2.2.1.lt,x.2.2.2.2.1.lt⟩
  ·rw[Ac.insL_nil,show n+1=N by omega];exact x.2.2.2.1
  rw[Ac.outsL_nil,show n+1=N by omega];exact x.2.2.2.2.1
 obtain⟨-,-,k9,-⟩:=HD.out W4 (Tk.But.refl _ _);clear H3 HX4 hmk HA H1;go_wp2
 go_loopg [6,37] m (λgh s6 s37 wr=>∃(j r:Nat) (va:Option Addr) (vc:Nat),gh+j=m/\s37=.int .i64 j/\s6=.slice va r vc/\r<=j/\Hid (r=(Ac.bet (T.ls.take j)).length/\Ak.Cnt W4 gi go n (T.ls.take j) (.slice va r vc) wr/\(T.ls.take j).all (Ac.inR n)=true))
 case atStart=>exact⟨0,0,none,0,by omega,rfl,rfl,Nat.le_refl _,rfl,HW4.out.1,by simp⟩
 case round=>
  obtain⟨j,r,va,vc,hj,rfl,rfl,hrj,HJ⟩:=hrel;clear k9
  by_cases hjm:j<m
  ·have hd:decide ((j:Int)<m)=true:=decide_eq_true (by omega)
   have hjl:j<T.ls.length:=by rw[HM.out.2.1];exact hjm
   obtain⟨gl,ol,rfl,hgl,q0,q1⟩:=HM.out.2.2.2.2 j hjl;obtain⟨⟨f,t⟩,hx⟩:∃x,T.ls[j]=x:=⟨_,rfl⟩;rw[hx]at q0 q1;simp only at q0 q1;have hDw:=HD.out wr HJ.out.2.1.but;rw[<-hDw.1.cell (p:=⟨gl,ol+j*2,none⟩) hgl]at q0;rw[<-hDw.1.cell (p:=⟨gl,ol+j*2+1,none⟩) hgl]at q1;have hj0:(0:Int)<=j:=by omega
   have hjm':(j:Int)<m:=by omega
   obtain⟨W5,hW5⟩:=pE (wr.alloc (.cells #[.int .i64 f,.int .i64 t] 69));have HW5:Hid (wr.alloc (.cells #[.int .i64 f,.int .i64 t] 69)=W5):=hW5;have B5:=pB hW5
   have G5:W5.heap[wr.heap.size]? =some (.cells #[.int .i64 f,.int .i64 t] 69 (0,0)):=by rw[<-hW5];exact heap_alloc_new wr _
   have v0:W5.cell? ⟨wr.heap.size,0,none⟩=some (.int .i64 f):=by simp[World.cell?,G5]
   have v1:W5.cell? ⟨wr.heap.size,1,none⟩=some (.int .i64 t):=by simp[World.cell?,G5]
   have C5:Hid (Ak.Cnt W4 gi go n (T.ls.take j) (.slice va r vc) W5/\T.ls[j]=(f,t)/\W5.heap[wr.heap.size]? =some (.cells #[.int .i64 f,.int .i64 t] 69 (0,0))):=⟨HJ.out.2.1.below B5,hx,G5⟩;obtain⟨-,k8,-,-⟩:=HD.out W5 C5.out.1.but;clear hW5 B5 G5 hx hDw
   go_upto_region 9 with fail
   rw[HW5.out];clear q0 q1;obtain⟨mn,hmn⟩:=pE ((if t<f then t else f));obtain⟨mx,hmx⟩:=pE ((if f<t then t else f))
   have HMN:Hid ((-1<=f/\ -1<=t↔ -1<=mn)/\(f<n/\t<n↔mx<n)):=by
    refine⟨?_, ?_⟩
    ·rw[<-hmn];split<;>omega
    rw[<-hmx];split<;>omega
   by_cases c1:mn< -1
   ·have e1:decide (mn< -1)=true:=decide_eq_true c1
    have e1':¬-1<=mn:=by omega
    have HRF:Hid (R=false):=by
     show _=_;rw[<-HM.out.2.2.1];refine Ac.linked_out hjl ?_;rw[C5.out.2.1,HM.out.1];unfold Ac.inR;have:=HMN.out.1;exact decide_eq_false (by rintro⟨a1,a2,-,-⟩;exact e1' (this.1 ⟨a1,a2⟩))
    have HBF:Hid (Below w.heap.size w W5):=(HD.out W5 C5.out.1.but).1;go_wp2;go_ret;exact⟨Tk.ret_bool HRF.out.symm,HBF.out⟩
   have e1:decide (mn< -1)=false:=decide_eq_false c1;have e1': -1<=mn:=by omega
   by_cases c2:(n:Int)<=mx
   ·have e2:decide ((n:Int)<=mx)=true:=decide_eq_true c2
    have HRF:Hid (R=false):=by
     show _=_;rw[<-HM.out.2.2.1];refine Ac.linked_out hjl ?_;rw[C5.out.2.1,HM.out.1];unfold Ac.inR;have:=HMN.out.2;exact decide_eq_false (by rintro⟨-,-,a1,a2⟩;have:=this.1 ⟨a1,a2⟩;omega)
    have HBF:Hid (Below w.heap.size w W5):=(HD.out W5 C5.out.1.but).1;go_wp2;go_ret;exact⟨Tk.ret_bool HRF.out.symm,HBF.out⟩
   have e2:decide ((n:Int)<=mx)=false:=decide_eq_false c2;have e2':mx<(n:Int):=by omega
   have hr1:=HMN.out.1.2 e1';have hr2:=HMN.out.2.2 e2';have HIR:Hid (Ac.inR n (f,t)=true):=by show _=_;unfold Ac.inR;exact decide_eq_true ⟨hr1.1,hr1.2,hr2.1,hr2.2⟩
   obtain⟨kf,hkf⟩:∃k:Nat,(k:Int)=f+1:=⟨(f+1).toNat,by omega⟩;obtain⟨kt,hkt⟩:∃k:Nat,(k:Int)=t+1:=⟨(t+1).toNat,by omega⟩;have hkf':kf<n+1:=by omega
   have hkt':kt<n+1:=by omega
   obtain⟨co,hco⟩:∃c,(Ac.outsL (T.ls.take j) n)[kf]? =some c:=⟨_,Ac.outsL_at _ _ _ hkf'⟩;obtain⟨ci,hci⟩:∃c,(Ac.insL (T.ls.take j) n)[kt]? =some c:=⟨_,Ac.insL_at _ _ _ hkt'⟩;have hco40:co<=40:=by have:=Ac.outsL_le _ _ _ _ hco;rw[List.length_take]at this;omega
   have hci40:ci<=40:=by have:=Ac.insL_le _ _ _ _ hci;rw[List.length_take]at this;omega
   have hw1:IntKind.i64.wrap (f+1)=(kf:Int):=by rw[Go.IntWalk.i64_in _ (by omega)];omega
   have hw2:IntKind.i64.wrap (t+1)=(kt:Int):=by rw[Go.IntWalk.i64_in _ (by omega)];omega
   have hw3:IntKind.i64.wrap ((co:Int)+1)=((co+1:Nat):Int):=by rw[Go.IntWalk.i64_in _ (by omega)];omega
   have hw4:IntKind.i64.wrap ((ci:Int)+1)=((ci+1:Nat):Int):=by rw[Go.IntWalk.i64_in _ (by omega)];omega
   obtain⟨co1,hco1⟩:=pE (co+1);obtain⟨ci1,hci1⟩:=pE (ci+1);rw[hco1]at hw3;rw[hci1]at hw4;have n1:(0:Int)<=kf:=by omega
   have n2:(0:Int)<=kt:=by omega
   have n3:(kf:Int)<N:=by have:=HN.out;omega
   have n4:(kt:Int)<N:=by have:=HN.out;omega
   have o1:=C5.out.1.outs.cell kf co hco;have o2:=C5.out.1.outs.frozen kf;obtain⟨W6,hW6⟩:=pE (W5.setCell ⟨go,kf,none⟩ (.int .i64 (co1:Int)));obtain⟨W7,hW7⟩:=pE (W6.setCell ⟨gi,kt,none⟩ (.int .i64 (ci1:Int)));have bgo:wr.heap.size≠go:=by have h1:=HW4.out.2.2.2;have h2:=HJ.out.2.1.but.size;omega
   have bgi:wr.heap.size≠gi:=by have h1:=HW4.out.2.2.1;have h2:=HJ.out.2.1.but.size;omega
   have g6:W6.heap[wr.heap.size]? =some (.cells #[.int .i64 f,.int .i64 t] 69 (0,0)):=by rw[<-hW6,Below.heap_setCell _ _ _ _ bgo];exact C5.out.2.2
   have g7:W7.heap[wr.heap.size]? =some (.cells #[.int .i64 f,.int .i64 t] 69 (0,0)):=by rw[<-hW7,Below.heap_setCell _ _ _ _ bgi];exact g6
   have u1:W6.cell? ⟨wr.heap.size,1,none⟩=some (.int .i64 t):=by simp[World.cell?,g6]
   have i6:Ak.Ats W6 gi (Ac.insL (T.ls.take j) n):=by rw[<-hW6];exact C5.out.1.ins.keep (Below.heap_setCell _ _ _ _ HW4.out.2.1)
   have u2:=i6.cell kt ci hci;have u3:=i6.frozen kt;have z0:W7.cell? ⟨wr.heap.size,0,none⟩=some (.int .i64 f):=by simp[World.cell?,g7]
   have z1:W7.cell? ⟨wr.heap.size,1,none⟩=some (.int .i64 t):=by simp[World.cell?,g7]
   have hcnt:=C5.out.1.count HW4.out.2.1 HW4.out.2.2.1 HW4.out.2.2.2 (f,t) kf kt co ci hkf hkt hkf' hkt' hco hci;rw[hco1,hci1,hW6,hW7]at hcnt;have HC7:Hid _:=hcnt;have HW6:Hid (W5.setCell ⟨go,kf,none⟩ (.int .i64 (co1:Int))=W6):=hW6;have HW7:Hid (W6.setCell ⟨gi,kt,none⟩ (.int .i64 (ci1:Int))=W7):=hW7;have HTK:Hid (T.ls.take (j+1)=T.ls.take j++ [(f,t)]):=by show _=_;rw[Ac.take_snoc _ _ hjl,C5.out.2.1]
   clear hcnt hW6 hW7 hco1 hci1 g6 g7 i6 bgo bgi hco hci hkf hkt hkf' hkt' hr1 hr2 c1 c2 HMN e1' e2'
   go_upto_region 12 with fail
   rw[HW6.out]
   go_upto_region 13 with fail
   rw[HW7.out];clear HW6 HW7 v0 v1 o1 o2 u1 u2 u3 k8 e1 e2 hmn hmx hw1 hw2 hw3 hw4 n1 n2 n3 n4
   by_cases c3:0<=f/\0<=t
   rotate_left
   ·have HC9:Hid (r=(Ac.bet (T.ls.take (j+1))).length/\Ak.Cnt W4 gi go n (T.ls.take (j+1)) (.slice va r vc) W7/\(T.ls.take (j+1)).all (Ac.inR n)=true):=by
     have c7:=HC7.out
     have hbe:Ac.bet (T.ls.take j++ [(f,t)])=Ac.bet (T.ls.take j):=by
      rw[Ac.bet_snoc,if_neg (by simp only[Bool.and_eq_true,decide_eq_true_eq];exact c3),List.append_nil]
     rw[HTK.out];refine⟨by rw[hbe];exact HJ.out.1,⟨c7.1,c7.2.1,by rw[hbe];exact c7.2.2.1,c7.2.2.2⟩, ?_⟩;rw[List.all_append,HJ.out.2.2];simp[HIR.out]
    by_cases c4:0<=f
    ·have e3:decide (0<=f)=true:=decide_eq_true c4
     have c5:¬0<=t:=λh=>c3 ⟨c4,h⟩;have e4:decide (0<=t)=false:=decide_eq_false c5;clear c3;go_wp2;go_roundg (gk-1)
     case measure=>omega
     case rel=>exact⟨j+1,r,va,vc,by omega,by go_num,rfl,by omega,HC9.out⟩
    have e3:decide (0<=f)=false:=decide_eq_false c4;clear c3;go_wp2;go_roundg (gk-1)
    case measure=>omega
    case rel=>exact⟨j+1,r,va,vc,by omega,by go_num,rfl,by omega,HC9.out⟩
   have e3:decide (0<=f)=true:=decide_eq_true c3.1;have e4:decide (0<=t)=true:=decide_eq_true c3.2;have c3a:=c3.1;have c3b:=c3.2;have HBT:Hid (Ac.bet (T.ls.take (j+1))=Ac.bet (T.ls.take j)++ [(f,t)]):=by show _=_;rw[HTK.out,Ac.bet_snoc,e3,e4];rfl
   obtain⟨i1,hi1,hy0,hy1,hy2⟩:=info_parts Ak.infoEdge;have hown7:=HC7.out.2.2.1;rw[<-HJ.out.1]at hown7;have hs7:W4.heap.size<=W7.heap.size:=HC7.out.2.2.2.size;have HO8:Hid ((W7.alloc (.cells #[.int .i64 f,.int .i64 t] 113)).ownsRow W4.heap.size 113 2 (.slice va r vc) r (Ak.ecells (Ac.bet (T.ls.take j)))/\W4.heap.size<=(W7.alloc (.cells #[.int .i64 f,.int .i64 t] 113)).heap.size):=⟨hown7.alloc _,by simp;omega⟩
   have HSR:Hid (∀k u, [Value.int .i64 f,.int .i64 t][k]? =some u->(W7.alloc (.cells #[.int .i64 f,.int .i64 t] 113)).cell? ((⟨W7.heap.size,0,none⟩:Addr).add k)=some u):=λk u hk=>by
    rw[Go.WideShapes.add_plain,Nat.zero_add]
    match k,hk with
    |0,hk=>simp at hk;subst hk;simp
    |1,hk=>simp at hk;subst hk;simp
   clear hown7 hs7 c3
   go_wp2_with (at_builtin;refine wpList_append_own _ rfl _ _ 112 rfl W4.heap.size 113 i1 (.agg #[.int .i64 0,.int .i64 0]) 2 16 Tryz.underlying112 hi1 hy0 hy1 hy2 rfl (by decide) (.slice va r vc) r (Ak.ecells (Ac.bet (T.ls.take j))) rfl HO8.out.1 ⟨W7.heap.size,0,none⟩ 1 1 [.int .i64 f,.int .i64 t] rfl rfl HSR.out (by intro u hu;simp at hu;rcases hu with rfl|rfl<;>rfl) ?c3 ?c4 HO8.out.2 ?_)
   case c3=>unfold maxLen;omega
   case c4=>omega
   intro v9 W9 own9 g9 _;obtain⟨va9,vc9,rfl⟩:=Ak.own_shape own9
   have HC9:Hid (r+1=(Ac.bet (T.ls.take (j+1))).length/\Ak.Cnt W4 gi go n (T.ls.take (j+1)) (.slice va9 (r+1) vc9) W9/\(T.ls.take (j+1)).all (Ac.inR n)=true):=by
    have c7:=HC7.out
    have hlt:∀x,x<W4.heap.size->W9.heap[x]? =W7.heap[x]? :=λx hx=>by
     have hs:=c7.2.2.2.size;rw[g9.block x (by simp;omega) (λe1=>by have:=(HO8.out.1.lt x e1.symm).1;omega)];exact Below.heap_alloc _ _ _ (by omega)
    have hle:(Ac.bet (T.ls.take (j+1))).length=r+1:=by rw[HBT.out,List.length_append,<-HJ.out.1];rfl
    refine⟨hle.symm,⟨?_, ?_, ?_, ?_⟩, ?_⟩
    ·rw[HTK.out];exact c7.1.keep (hlt gi HW4.out.2.2.1)
    ·rw[HTK.out];exact c7.2.1.keep (hlt go HW4.out.2.2.2)
    ·rw[hle,HBT.out]
     have:Ak.ecells (Ac.bet (T.ls.take j)++ [(f,t)])=Ak.ecells (Ac.bet (T.ls.take j))++ [.int .i64 f,.int .i64 t]:=by simp[Ak.ecells]
     rw[this];exact own9
    ·exact⟨g9.os.trans c7.2.2.2.os,g9.tape.trans c7.2.2.2.tape,g9.output.trans c7.2.2.2.output,Nat.le_trans c7.2.2.2.size (Nat.le_trans (by simp) g9.size),λx hx hne=>(hlt x hx).trans (c7.2.2.2.block x hx hne)⟩
    rw[HTK.out,List.all_append,HJ.out.2.2];simp[HIR.out]
   clear own9 g9 HO8 HSR;go_wp2;go_roundg (gk-1)
   case measure=>omega
   case rel=>exact⟨j+1,r+1,va9,vc9,by omega,by go_num,rfl,by omega,HC9.out⟩
  have hd:decide ((j:Int)<m)=false:=decide_eq_false (by omega);have hjm2:j=m:=by omega
  have htk:T.ls.take j=T.ls:=List.take_of_length_le (by rw[HM.out.2.1];omega)
  have HE:Hid (r=(Ac.bet T.ls).length/\Ak.Cnt W4 gi go n T.ls (.slice va r vc) wr/\T.ls.all (Ac.inR n)=true):=by
   have h:=HJ.out;rw[htk]at h;exact h
  have hr40:r<=40:=by omega
  obtain⟨we,hwe⟩:=pE (wr);rw[hwe]at HE⊢;clear htk HJ hjm2 hwe;go_wp2
  go_loopg [89] N (λgh s89 wr=>∃i:Nat,gh+i=N/\s89=.int .i64 i/\Hid ((∀i',i'<i->T.joinedAt i'=true)/\Below we.heap.size we wr))
  case atStart=>exact⟨0,by omega,rfl,λi' h=>absurd h (by omega),Below.refl _ _⟩
  case round=>
   obtain⟨i,hi,rfl,HI⟩:=hrel
   by_cases hiN:i<N
   rotate_left
   ·have hd2:decide ((i:Int)<N)=false:=decide_eq_false (by omega)
    have hiN2:i=N:=by omega
    have cn:=HE.out.2.1;have hDe:=HD.out we cn.but
    have hbox8:wr.cell? ⟨w.heap.size,8,none⟩=some (.slice (some ⟨g,off,none⟩) n cap):=by
     have h1:w.heap.size<we.heap.size:=by have h1:=H4.out.2.2.2.2;have h2:=cn.but.size;omega
     rw[HI.out.2.cell (p:=⟨w.heap.size,8,none⟩) h1];exact hDe.2.1
    have hrw:=cn.row;rw[<-HE.out.1]at hrw;have hE0:=Ak.eds_of_own (by rw[<-HE.out.1];exact hrw);have hE1:Rk.Eds wr wr.heap.size va (Ac.bet T.ls):=(hE0.below HI.out.2).wider HI.out.2.size;have CRD:=Tryz.round_free n va vc (Ac.bet T.ls) wr hE1 (by rw[<-HE.out.1];omega);rw[<-HE.out.1]at CRD;obtain⟨fb,hfb⟩:=pE (Ac.freeB n (Ac.bet T.ls));rw[hfb]at CRD;have HCR:Hid _:=CRD
    have HRR:Hid (R=fb):=by
     show _=_;rw[<-HM.out.2.2.1,<-hfb];unfold Ac.linkedB;rw[HM.out.1,HM.out.2.1,HE.out.2.2,decide_eq_false (by omega:¬n=0),decide_eq_true hm4];have:(List.range (n+1)).all T.joinedAt=true:=List.all_eq_true.2 λx hx=>HI.out.1 x (by have:=List.mem_range.1 hx;have:=HN.out;omega);rw[this]
     simp
    have HBF:Hid (Below w.heap.size w wr):=hDe.1.trans (HI.out.2.mono hDe.1.size);clear cn hDe hrw hE0 hE1 CRD hfb hiN2
    go_wp2_with fail
    refine Calls.mono HCR.out ?_;rintro e W8 ⟨ra,rn,rc,err,rfl,hre,hb8⟩;have H8:Hid (Below w.heap.size w W8/\(decide (err=0)&&decide (rn=0))=fb):=⟨HBF.out.trans (hb8.mono HBF.out.size),hre⟩;clear hre hb8 HCR
    by_cases ce:err=0
    ·subst ce
     by_cases cr:rn=0
     ·subst cr
      go_wp2;go_ret;exact⟨Tk.ret_bool (by rw[HRR.out,<-H8.out.2];rfl),H8.out.1⟩
     have dr:((rn:Int)==0)=false:=by simp;omega
     have HFB:Hid (fb=false):=by show _=_;rw[<-H8.out.2,decide_eq_false cr];rfl
     clear cr;go_wp2;go_ret;exact⟨Tk.ret_bool (by rw[HRR.out,HFB.out]),H8.out.1⟩
    have de:(err==0)=false:=by simpa using ce
    have HFB:Hid (fb=false):=by show _=_;rw[<-H8.out.2,decide_eq_false ce];rfl
    clear ce;go_wp2;go_ret;exact⟨Tk.ret_bool (by rw[HRR.out,HFB.out]),H8.out.1⟩
   have hd2:decide ((i:Int)<N)=true:=decide_eq_true (by omega)
   have hiA:i<T.around.length:=by
    have h1:=HN.out;have h2:=HM.out.1;simp[Ac.around];omega
   have hi1:i<n+1:=by have h1:=HN.out;omega
   obtain⟨x,hx⟩:=pE (T.around[i]);have hrow:=(HD.out we HE.out.2.1.but).2.2.2 i hiA;rw[hx]at hrow
   obtain⟨ca,cc,hca⟩:∃ca cc,(Ac.UA U i).c=.slice ca x.cs.length cc:=by
    rw[<-hx]
    cases i with
    |zero=>exact⟨none,0,rfl⟩
    |succ i=>
     obtain⟨h1,_,h2⟩:=HU.out i (by omega);obtain⟨ca,cc,h3,_⟩:=h2.own.c;exact⟨ca,cc,h3⟩
   have hone:(Ac.row x (Ac.UA U i)).all (·.oneCell')=true:=by
    rw[<-hx]
    cases i with
    |zero=>
     show(Ac.row (.mk 0 0 0 0 (.mk 0 0 []) [] [] [] [] []) Ac.V0).all (·.oneCell')=true;simp[Ac.row,Ac.V0,Value.oneCell']
    |succ i=>
     obtain⟨h1,_,h2⟩:=HU.out i (by omega);exact h2.ones
   obtain⟨nc,hnc⟩:=pE (x.cs.length);obtain⟨y0,hy0⟩:=pE (x.kind);obtain⟨y2,hy2⟩:=pE (x.a);rw[hnc]at hca;obtain⟨y1,y3,y4,y5,y6,y8,y9,y10,y11,hyr⟩:∃y1 y3 y4 y5 y6 y8 y9 y10 y11,Ac.row x (Ac.UA U i)=#[.int .i64 y0,y1,.int .i64 y2,y3,y4,y5,y6,.slice ca nc cc,y8,y9,y10,y11]:=⟨_,_,_,_,_,_,_,_,_,by unfold Ac.row;rw[hca,hy0,hy2]⟩;rw[hyr]at hrow hone;obtain⟨ci,hci⟩:∃c,(Ac.insL T.ls n)[i]? =some c:=⟨_,Ac.insL_at _ _ _ hi1⟩;obtain⟨co,hco⟩:∃c,(Ac.outsL T.ls n)[i]? =some c:=⟨_,Ac.outsL_at _ _ _ hi1⟩;obtain⟨q,hq⟩:=pE (Ac.joinedB y0 y2 nc (ci:Int) (co:Int))
   have HJA:Hid (T.joinedAt i=q):=by
    show _=_;unfold Ac.joinedAt;rw[HM.out.1,List.getElem?_eq_getElem hiA,hx,hci,hco];simp only[Option.map_some,Option.getD_some];rw[hy0,hy2,hnc,hq]
   have hlte:kb<we.heap.size:=by have h1:=H4.out.2.2.2.1;have h2:=HE.out.2.1.but.size;have h3:=H4.out.2.2.2.2.2;omega
   have hc:∀p,wr.cell? ⟨kb,p,none⟩=we.cell? ⟨kb,p,none⟩:=λp=>HI.out.2.cell (p:=⟨kb,p,none⟩) hlte
   have hcs:wr.cell? ⟨kb,i*12,none⟩=some (.int .i64 y0)/\wr.cell? ⟨kb,i*12+1,none⟩=some (y1)/\wr.cell? ⟨kb,i*12+2,none⟩=some (.int .i64 y2)/\wr.cell? ⟨kb,i*12+3,none⟩=some (y3)/\wr.cell? ⟨kb,i*12+4,none⟩=some (y4)/\wr.cell? ⟨kb,i*12+5,none⟩=some (y5)/\wr.cell? ⟨kb,i*12+6,none⟩=some (y6)/\wr.cell? ⟨kb,i*12+7,none⟩=some (.slice ca nc cc)/\wr.cell? ⟨kb,i*12+8,none⟩=some (y8)/\wr.cell? ⟨kb,i*12+9,none⟩=some (y9)/\wr.cell? ⟨kb,i*12+10,none⟩=some (y10)/\wr.cell? ⟨kb,i*12+11,none⟩=some (y11):=
    ⟨(hc _).trans (hrow 0 (by simp)),(hc _).trans (hrow 1 (by simp)),(hc _).trans (hrow 2 (by simp)),(hc _).trans (hrow 3 (by simp)),(hc _).trans (hrow 4 (by simp)),(hc _).trans (hrow 5 (by simp)),(hc _).trans (hrow 6 (by simp)),(hc _).trans (hrow 7 (by simp)),(hc _).trans (hrow 8 (by simp)),(hc _).trans (hrow 9 (by simp)),(hc _).trans (hrow 10 (by simp)),(hc _).trans (hrow 11 (by simp))⟩
   obtain⟨hc0,hc1,hc2,hc3,hc4,hc5,hc6,hc7,hc8,hc9,hc10,hc11⟩:=hcs;have HK:Hid ((wr.alloc (.cells #[.int .i64 0,.int .i64 0,.int .i64 0,.int .i64 0,.int .i64 0,.int .i64 0,.slice none 0 0,.slice none 0 0,.slice none 0 0,.slice none 0 0,.slice none 0 0,.slice none 0 0] 32)).heap[wr.heap.size]? =some (.cells #[.int .i64 0,.int .i64 0,.int .i64 0,.int .i64 0,.int .i64 0,.int .i64 0,.slice none 0 0,.slice none 0 0,.slice none 0 0,.slice none 0 0,.slice none 0 0,.slice none 0 0] 32 (0,0))):=heap_alloc_new wr _;obtain⟨V0,hV0⟩:=pE ((wr.alloc (.cells #[.int .i64 0,.int .i64 0,.int .i64 0,.int .i64 0,.int .i64 0,.int .i64 0,.slice none 0 0,.slice none 0 0,.slice none 0 0,.slice none 0 0,.slice none 0 0,.slice none 0 0] 32)).setRow wr.heap.size #[.int .i64 y0,y1,.int .i64 y2,y3,y4,y5,y6,.slice ca nc cc,y8,y9,y10,y11]);have HV0:Hid _:=hV0;have GV:V0.heap[wr.heap.size]? =some (.cells #[.int .i64 y0,y1,.int .i64 y2,y3,y4,y5,y6,.slice ca nc cc,y8,y9,y10,y11] 32 (0,0)):=by show _=_;rw[<-hV0];exact setRow_heap _ _ _ _ _ _ HK.out
   have BV:Below wr.heap.size wr V0:=by
    rw[<-hV0];exact((Below.refl _ wr).alloc (Nat.le_refl _) _).trans ⟨rfl,rfl,rfl,by simp[World.setRow],λk hk=>setRow_other _ _ _ _ (by omega)⟩
   have bV:Below we.heap.size we V0:=HI.out.2.trans (BV.mono HI.out.2.size);have hbl:wr.heap.size<V0.heap.size:=(Array.getElem?_eq_some_iff.1 GV).1
   have CF:Hid (∀W,Below V0.heap.size V0 W->(W.cell? ⟨wr.heap.size,0,none⟩=some (.int .i64 y0)/\W.cell? ⟨wr.heap.size,1,none⟩=some (y1)/\W.cell? ⟨wr.heap.size,2,none⟩=some (.int .i64 y2)/\W.cell? ⟨wr.heap.size,3,none⟩=some (y3)/\W.cell? ⟨wr.heap.size,4,none⟩=some (y4)/\W.cell? ⟨wr.heap.size,5,none⟩=some (y5)/\W.cell? ⟨wr.heap.size,6,none⟩=some (y6)/\W.cell? ⟨wr.heap.size,7,none⟩=some (.slice ca nc cc)/\W.cell? ⟨wr.heap.size,8,none⟩=some (y8)/\W.cell? ⟨wr.heap.size,9,none⟩=some (y9)/\W.cell? ⟨wr.heap.size,10,none⟩=some (y10)/\W.cell? ⟨wr.heap.size,11,none⟩=some (y11))/\W.cell? ⟨gi,i,none⟩=some (.int .i64 (ci:Int))/\W.cell? ⟨go,i,none⟩=some (.int .i64 (co:Int))):=λW hb=>by
    have g1:=(hb.block _ hbl).trans GV;have b1:Below we.heap.size we W:=bV.trans (hb.mono bV.size);have cn:=HE.out.2.1;refine⟨by simp[World.cell?,g1], ?_, ?_⟩
    ·exact(cn.ins.keep (b1.block _ cn.ins.lt)).cell i ci hci
    exact(cn.outs.keep (b1.block _ cn.outs.lt)).cell i co hco
   have CJ:Hid (∀W,Below V0.heap.size V0 W->Calls Tryz.prog 72 #[.agg #[.int .i64 y0,y1,.int .i64 y2,y3,y4,y5,y6,.slice ca nc cc,y8,y9,y10,y11],.int .i64 (ci:Int),.int .i64 (co:Int)] W λe w'=>e=.returned (.bool q)/\Hid (Below V0.heap.size V0 w')):=λW hb=>
    (Tryz.isJoined_any y0 y2 y1 y3 y4 y5 y6 y8 y9 y10 y11 ca nc cc (ci:Int) (co:Int) W).mono λ_ _ h=>⟨by rw[h.1,hq],hb.trans (h.2.mono hb.size)⟩
   have HON:Hid (#[.int .i64 y0,y1,.int .i64 y2,y3,y4,y5,y6,.slice ca nc cc,y8,y9,y10,y11].all (·.oneCell')=true):=hone;have HBV:Hid (Below we.heap.size we V0):=bV;have BR:Hid (Below V0.heap.size V0 V0):=Below.refl _ _;have hi0':(0:Int)<=i:=by omega
   have hiN':(i:Int)<N:=by omega
   clear hV0 GV BV bV hbl hc hrow hone hyr hca hx hnc hy0 hy2 hci hco hq hlte
   go_upto_region 19 with(refine wpList_store_row rfl 32 _ _ rfl wr.heap.size #[.int .i64 y0,y1,.int .i64 y2,y3,y4,y5,y6,.slice ca nc cc,y8,y9,y10,y11] rfl rfl 32 _ HK.out (by kernel_rfl) rfl HON.out ?_)
   rw[HV0.out];clear HK HV0 HON hc0 hc1 hc2 hc3 hc4 hc5 hc6 hc7 hc8 hc9 hc10 hc11
   go_region_held3 (λW=>(W.cell? ⟨wr.heap.size,0,none⟩=some (.int .i64 y0)/\W.cell? ⟨wr.heap.size,1,none⟩=some (y1)/\W.cell? ⟨wr.heap.size,2,none⟩=some (.int .i64 y2)/\W.cell? ⟨wr.heap.size,3,none⟩=some (y3)/\W.cell? ⟨wr.heap.size,4,none⟩=some (y4)/\W.cell? ⟨wr.heap.size,5,none⟩=some (y5)/\W.cell? ⟨wr.heap.size,6,none⟩=some (y6)/\W.cell? ⟨wr.heap.size,7,none⟩=some (.slice ca nc cc)/\W.cell? ⟨wr.heap.size,8,none⟩=some (y8)/\W.cell? ⟨wr.heap.size,9,none⟩=some (y9)/\W.cell? ⟨wr.heap.size,10,none⟩=some (y10)/\W.cell? ⟨wr.heap.size,11,none⟩=some (y11))/\W.cell? ⟨gi,i,none⟩=some (.int .i64 (ci:Int))/\W.cell? ⟨go,i,none⟩=some (.int .i64 (co:Int)))
    (first|exact CF.out _ B3.out|exact CF.out _ BR.out.drew|exact CF.out _ BR.out)
    (first
    |(go_simp;go_at_call 72;refine Calls.mono (CJ.out _ ?_) ?_;(first|exact BR.out|exact BR.out.drew|exact Tk.below_drewN BR.out _);rintro e W3 ⟨rfl,B3⟩))
   all_goals
    clear CF CJ BR;go_simp
    cases q with
    |true=>
     go_wp2;go_roundg (gk-1)
     case measure=>omega
     case rel=>
      refine⟨i+1,by omega,by go_num,λi' hi'=> ?_,HBV.out.trans (B3.out.mono HBV.out.size)⟩
      rcases Nat.lt_or_ge i' i with h1|h1
      ·exact HI.out.1 i' h1
      have:i'=i:=by omega
      subst this;exact HJA.out
    |false=>
     have HRF:Hid (R=false):=by
      show _=_;rw[<-HM.out.2.2.1];exact Ac.linked_not (by rw[HM.out.1];exact hi1) HJA.out
     have HBF:Hid (Below w.heap.size w W3):=by
      have h1:=(HD.out we HE.out.2.1.but).1;have h2:=HBV.out.trans (B3.out.mono HBV.out.size);exact h1.trans (h2.mono h1.size)
     go_wp2;go_ret;exact⟨Tk.ret_bool HRF.out.symm,HBF.out⟩
end Go.Proofs
