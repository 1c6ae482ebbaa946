import Derived.Test.YtenaelpdnccgnaaGreatDoorQBwRoot
import Derived.Test.YtenaelpdnccgnaaGreatDoorQNtRef4
import Derived.Test.YtenaelpdnccgnaaGreatDoorQNtFour
set_option maxRecDepth 100000
set_option maxHeartbeats 32000000
namespace Go.Proofs
open Go.RowKit Go.Shelf
theorem Tryz.bwKids (b o:Nat)(w:World):
  Calls Tryz.prog 57 #[.pointer (some ⟨b,o,none⟩)] w λe w'=>e=.returned (.pointer (some ⟨b,o+2,none⟩))/\w'=w:=by
 go_enter Tryz.func57,Tryz.ntmps57
 go_wp2;go_ret;exact⟨rfl,rfl⟩
theorem Tryz.bwPart_nil (g0 n c:Nat)(w:World)(hn:n<=c)(hc:∀j,j<n->∃b o cur T,w.cell? ⟨g0,j,none⟩=some (.pointer (some ⟨b,o,none⟩))/\w.heap[b]? =some (.cells cur T (0,0))/\cur[o+2]? =some (.slice none 0 0))(h9:n<=1000):
  Calls Tryz.prog 56 #[.slice (some ⟨g0,0,none⟩) n c,.func (.func 57) #[] #[],.int .i64 53687091] w λe w'=>e=.returned (.tuple #[])/\w'=w:=by
 have HC:Hid _:=hc;have HN:Hid (n<=c/\n<=1000):=⟨hn,h9⟩;clear hc
 go_enter Tryz.func56,Tryz.ntmps56
 go_wp2
 go_loopg [0,2,6,7,8,9] n (λgk s0 s2 _ _ _ _ wr=>∃m:Nat,s0=.slice (some ⟨g0,0,none⟩) m c/\s2=.int .i64 53687091/\m<=gk/\m<=n/\w=wr)
 case atStart=>exact⟨n,rfl,rfl,Nat.le_refl _,Nat.le_refl _,rfl⟩
 case round=>
  obtain⟨m,rfl,rfl,hm,hmn,hw⟩:=hrel;obtain rfl:=hw
  by_cases hm0:0<m
  rotate_left
  ·obtain rfl:m=0:=by omega
   go_wp2
   go_end0
   exact⟨rfl,rfl⟩
  obtain⟨k,rfl⟩:∃k,m=k+1:=⟨m-1,by omega⟩;obtain⟨b,o,cur,T,hp,hb,hx⟩:=HC.out k (by omega);have hp':w.cell? ⟨g0,k,none⟩=some (.pointer (some ⟨b,o,none⟩)):=hp;have hvx:w.cell? ⟨b,o+2,none⟩=some (.slice none 0 0):=by simp only[World.cell?,hb];exact hx
  have hfx:w.frozen? ⟨b,o+2,none⟩=false:=by simp[World.frozen?,hb]
  have hsame:w.setCell ⟨b,o+2,none⟩ (.slice none 0 0)=w:=Bw.same hb hx;have ek:((k+1:Nat):Int)-1=k:=by omega
  have ek0:(0:Int)<=k:=by omega
  have ek1:(k:Int)<((k+1:Nat):Int):=by omega
  have ekc:(k:Int)<=c:=by omega
  have hneg:decide ((53687091:Int)<0)=false:=by decide
  clear hp hb hx
  go_wp2_with fail
  refine Calls.mono (Tryz.bwKids b o w) ?_;rintro e W1 ⟨rfl,hW1⟩;obtain rfl:=hW1.symm
  go_wp2_with fail
  refine Calls.mono (Tryz.cloneTerm_nil _ 0) ?_;rintro e W2 ⟨rfl,hW2⟩;obtain rfl:=hW2.symm;go_wp2;refine wp_loop_rounds 1 ?_;rw[rounds_succ];go_wp2
  go_roundg k
  case measure=>omega
  case rel=>exact⟨k,rfl,rfl,by omega,by omega,rfl⟩
theorem Nt.head_filter {n:Nat}{p:Nat->Bool}{k:Nat}(hk:k<n)(hp:p k=true)(h:∀i,i<k->p i=false):((List.range n).filter p).headD 0=k/\(List.range n).filter p≠ []:=by
 have e:(List.range n).filter p=k::((List.range n).filter p).tail:=by
  have h1:List.range n=List.range k++(k::(List.range (n-k-1)).map (k+1+·)):=by
   rw[show List.range n=List.range (k+(1+(n-k-1)))by congr 1;omega,List.range_add,List.range_add];simp[Function.comp_def,Nat.add_assoc]
  rw[h1,List.filter_append,List.filter_cons_of_pos hp];have h2:(List.range k).filter p= []:=List.filter_eq_nil_iff.2 λi hi=>by rw[h i (List.mem_range.1 hi)];simp
  rw[h2];rfl
 rw[e];exact⟨rfl,by simp⟩
theorem Nt.filter_none {n:Nat}{p:Nat->Bool}(h:∀i,i<n->p i=false):(List.range n).filter p= []:=List.filter_eq_nil_iff.2 λi hi=>by rw[h i (List.mem_range.1 hi)];simp
theorem Nt.check_at {ns:List Nd}{fs:List Fl}{j a:Nat}(hj:j<4)(hb:∀i,i<j->Nt.wrongAt ns fs i= [])(h:Nt.wrongAt ns fs j≠ [])(ha:(Nt.wrongAt ns fs j).headD 0=a):Nt.checkN ns fs=(j+1,a):=by
 rw[Nt.checkN,Nt.broken_at hj hb h,<-ha]
theorem Nt.check_none {ns:List Nd}{fs:List Fl}(hb:∀i,i<4->Nt.wrongAt ns fs i= []):Nt.checkN ns fs=(0,0):=by rw[Nt.checkN,Nt.broken_none hb];rfl
theorem Nt.first_le {ns:List Nd}{k:Int}{i:Nat}(hi:i<ns.length)(hk:ns[i].kind=k):0<=Nt.firstI ns k/\Nt.firstI ns k<=i:=by
 unfold Nt.firstI
 cases h:ns.findIdx? (λx=>decide (x.kind=k))with
 |none=>
  have:=List.findIdx?_eq_none_iff.1 h ns[i] (List.getElem_mem hi);simp[hk]at this
 |some j=>
  obtain⟨hj,_,h2⟩:=List.findIdx?_eq_some_iff_getElem.1 h;refine⟨by simp, ?_⟩
  rcases Nat.lt_or_ge i j with hlt|hge
  ·have:=h2 i hlt
   simp[hk]at this
  simp;exact hge
theorem Nt.joint_eq {ns:List Nd}{fs:List Fl}{i:Nat}(hi:i<ns.length):(!Nt.jointB ns fs i)=(!Nt.threeB ns fs i||(decide (ns[i].kind=1)&&decide (Nt.firstI ns 1<(i:Int)))||(decide (ns[i].kind=2)&&decide (Nt.firstI ns 2<(i:Int)))):=by
 unfold Nt.jointB;rw[Nt.kindAt_get ns i hi]
 have h1:ns[i].kind=1->(!decide ((i:Int)=Nt.firstI ns 1))=decide (Nt.firstI ns 1<(i:Int)):=λhk=>by
  have:=Nt.first_le hi hk;rw[<-decide_not];exact decide_eq_decide.2 (by omega)
 have h2:ns[i].kind=2->(!decide ((i:Int)=Nt.firstI ns 2))=decide (Nt.firstI ns 2<(i:Int)):=λhk=>by
  have:=Nt.first_le hi hk;rw[<-decide_not];exact decide_eq_decide.2 (by omega)
 by_cases k1:ns[i].kind=1
 ·rw[h1 k1,decide_eq_true k1,decide_eq_false (show¬ns[i].kind=2 by omega)]
  cases Nt.threeB ns fs i<;>cases decide (Nt.firstI ns 1<(i:Int))<;>rfl
 by_cases k2:ns[i].kind=2
 ·rw[h2 k2,decide_eq_true k2,decide_eq_false k1]
  cases Nt.threeB ns fs i<;>cases decide (Nt.firstI ns 2<(i:Int))<;>rfl
 rw[decide_eq_false k1,decide_eq_false k2]
 cases Nt.threeB ns fs i<;>rfl
structure Nt.Kw (w:World)(box:Array Value)(W:World):Prop where
 below:Below w.heap.size w W
 box:W.heap[w.heap.size]? =some (.cells box 30 (0,0))
 ans:W.heap[w.heap.size+1]? =some (.cells #[.int .i64 0,.int .i64 0] 123 (0,0))
theorem Nt.Kw.next {w:World}{box:Array Value}{W W':World}(h:Nt.Kw w box W)(hb:Below W.heap.size W W'):Nt.Kw w box W':=
 ⟨h.below.trans (hb.mono h.below.size),by rw[hb.block _ (Nt.lt_of h.box)];exact h.box,by rw[hb.block _ (Nt.lt_of h.ans)];exact h.ans⟩
theorem Nt.Kw.alloc {w:World}{box:Array Value}{W:World}(h:Nt.Kw w box W)(o:Obj):Nt.Kw w box (W.alloc o):=h.next ((Below.refl _ W).alloc (Nat.le_refl _) o)
theorem Nt.Kw.ends {w:World}{box:Array Value}{W:World}(h:Nt.Kw w box W)(r a:Int)(tmps:Array Value)(ht:tmps.getD 2 undef=.pointer (some ⟨w.heap.size+1,0,none⟩)):
  (results Tryz.f79 tmps).run Tryz.prog (W.setRow (w.heap.size+1) #[.int .i64 r,.int .i64 a])=.ok (.agg #[.int .i64 r,.int .i64 a]) (W.setRow (w.heap.size+1) #[.int .i64 r,.int .i64 a])/\Below w.heap.size w (W.setRow (w.heap.size+1) #[.int .i64 r,.int .i64 a]):=
 ⟨results_cell_row Tryz.results79 _ _ (w.heap.size+1) 123 #[.int .i64 r,.int .i64 a] (0,0) _ ht (setRow_heap _ _ _ _ _ _ h.ans) Tryz.underlying123 rfl (by kernel_rfl),Tk.below_row h.below (by omega) _⟩
theorem Tryz.rCheck_any (an:Option Addr)(cn:Nat)(af:Option Addr)(cf d:Nat)(ns:List Nd)(fs:List Fl)(w:World)(hH:Nt.Has w w.heap.size d an af ns fs):
  Calls Tryz.prog 79 #[.agg #[.slice an ns.length cn,.slice af fs.length cf]] w λe w'=>e=.returned (.agg #[.int .i64 ((Nt.checkN ns fs).1:Int),.int .i64 ((Nt.checkN ns fs).2:Int)])/\Below w.heap.size w w':=by
 obtain⟨w1,hw1⟩:=pE ((w.alloc (.cells #[.slice an ns.length cn,.slice af fs.length cf] 30)).alloc (.cells #[.int .i64 0,.int .i64 0] 123))
 have K1:Nt.Kw w #[.slice an ns.length cn,.slice af fs.length cf] w1:=by
  rw[<-hw1];refine⟨((Below.refl _ w).alloc (Nat.le_refl _) _).alloc (by simp) _, ?_, ?_⟩
  ·rw[Below.heap_alloc _ _ _ (by simp)];exact heap_alloc_new w _
  have:=heap_alloc_new (w.alloc (.cells #[.slice an ns.length cn,.slice af fs.length cf] 30)) (.cells #[.int .i64 0,.int .i64 0] 123);simpa using this
 obtain⟨n,hnn⟩:=pE (ns.length);obtain⟨m,hmm⟩:=pE (fs.length);have hn100:n<=100:=by have:=hH.nlen;omega
 have hm100:m<=100:=by have:=hH.flen;omega
 have HH:Hid (Nt.Has w w.heap.size d an af ns fs/\ns.length=n/\fs.length=m):=⟨hH,hnn,hmm⟩;obtain⟨c,hc⟩:=pE (Nt.checkN ns fs);have HC:Hid (Nt.checkN ns fs=c):=hc;rw[hnn,hmm]at hw1 K1;rw[hc,hnn,hmm];have H1:Hid ((w.alloc (.cells #[.slice an n cn,.slice af m cf] 30)).alloc (.cells #[.int .i64 0,.int .i64 0] 123)=w1):=hw1;have HK1:Hid (Nt.Kw w #[.slice an n cn,.slice af m cf] w1):=K1;have HHW:Hid (∀W,Nt.Kw w #[.slice an n cn,.slice af m cf] W->Nt.Has W W.heap.size d an af ns fs/\W.cell? ⟨w.heap.size,0,none⟩=some (.slice an n cn)/\W.cell? ⟨w.heap.size,1,none⟩=some (.slice af m cf)):=λW h=>⟨(HH.out.1.below h.below).wider h.below.size,(Nt.box2 h.box).1,(Nt.box2 h.box).2⟩;obtain⟨p0,p1⟩:=Nt.box2 K1.box;clear hH hnn hmm hc hw1 K1
 by_cases hbig:24<n∨40<m
 ·obtain⟨c0,c1⟩:=c
  have HE:Hid (1=c0/\0=c1):=by
   have hw:Nt.wrongAt ns fs 0= [0]:=by
    show Nt.wrong1 ns fs= [0];rw[Nt.wrong1,if_pos (by simp[Nt.hugeB,HH.out.2.1,HH.out.2.2];omega)]
   have:=Nt.check_at (ns:=ns) (fs:=fs) (j:=0) (a:=0) (by omega) (λi hi=>by omega) (by rw[hw];simp) (by rw[hw];rfl);rw[HC.out]at this;exact⟨(congrArg Prod.fst this).symm,(congrArg Prod.snd this).symm⟩
  obtain⟨rfl,rfl⟩:=HE.out
  obtain h1|⟨h1,h2⟩:decide ((24:Int)<n)=true∨(decide ((24:Int)<n)=false/\decide ((40:Int)<m)=true):=by simp;omega
  all_goals
   clear hbig HE;have hans:=HK1.out.ans
   go_enter Tryz.func79,Tryz.ntmps79
   go_upto_region 1 with fail
   rw[H1.out]
   go_wp2_with (refine wpList_store_row rfl 123 _ _ rfl (w.heap.size+1) _ rfl rfl 123 #[.int .i64 0,.int .i64 0] hans (by kernel_rfl) rfl (by kernel_rfl) ?_)
   exact bodyPost_ret (v:=.agg #[.int .i64 1,.int .i64 0]) (HK1.out.ends 1 0 _ rfl).1 rfl ⟨rfl,(HK1.out.ends 1 0 #[undef,undef,.pointer (some ⟨w.heap.size+1,0,none⟩)] rfl).2⟩
 have h1:decide ((24:Int)<n)=false:=decide_eq_false (by omega);have h2:decide ((40:Int)<m)=false:=decide_eq_false (by omega);have hn24:n<=24:=by omega
 clear hbig
 go_enter Tryz.func79,Tryz.ntmps79
 go_upto_region 1 with fail
 rw[H1.out];go_wp2;clear H1 p0 p1
 go_loopg [28] n (λgk s28 wr=>∃j:Nat,gk+j=n/\s28=.int .i64 j/\Hid (Nt.Kw w #[.slice an n cn,.slice af m cf] wr/\∀i (h:i<ns.length),i<j->Nt.oneB ns[i]=true))
 case atStart=>exact⟨0,by omega,rfl,HK1.out,λi _ h=>by omega⟩
 case round=>
  obtain⟨j,hj,rfl,HI⟩:=hrel
  by_cases hlt:j<n
  ·have hd:decide ((j:Int)<n)=true:=decide_eq_true (by omega)
   have hjl:j<ns.length:=by rw[HH.out.2.1];exact hlt
   obtain⟨g,off,u,rfl,hg,q0,q1,q2,q3,q4,hT⟩:=HH.out.1.nds j hjl;obtain⟨au,cu,rfl⟩:=hT.shape;obtain⟨x,hx⟩:=pE (ns[j]);have hsz:=HH.out.1.nsz _ (List.getElem_mem hjl);rw[hx]at q0 q1 q2 q3 hT hsz;have hcc:∀o,wr.cell? ⟨g,o,none⟩=w.cell? ⟨g,o,none⟩:=λo=>HI.out.1.below.cell (p:=⟨g,o,none⟩) hg;obtain⟨W0,hW0⟩:=pE (wr.alloc (.cells #[.int .i64 x.kind,.int .i64 x.a,.int .i64 x.t.op,.int .i64 x.t.num,.slice au x.t.ks.length cu] 62));have K0:Nt.Kw w #[.slice (some ⟨g,off,none⟩) n cn,.slice af m cf] W0:=by rw[<-hW0];exact HI.out.1.alloc _
   have G0:W0.heap[wr.heap.size]? =some (.cells #[.int .i64 x.kind,.int .i64 x.a,.int .i64 x.t.op,.int .i64 x.t.num,.slice au x.t.ks.length cu] 62 (0,0)):=by rw[<-hW0];exact heap_alloc_new wr _
   have hcall:=Tryz.rone_any d x (.slice au x.t.ks.length cu) W0 ((hT.below K0.below).wider K0.below.size) hsz;rw[hx]at q4;obtain⟨x0,hx0⟩:=pE (x.kind);obtain⟨x1,hx1⟩:=pE (x.a);obtain⟨x2,hx2⟩:=pE (x.t.op);obtain⟨x3,hx3⟩:=pE (x.t.num);obtain⟨nu,hnu⟩:=pE (x.t.ks.length);obtain⟨b,hb⟩:=pE (Nt.oneB x);rw[hx0,hx1,hx2,hx3,hnu,hb]at hcall;rw[hx0,hx1,hx2,hx3,hnu]at hW0 G0;rw[hx0]at q0;rw[hx1]at q1;rw[hx2]at q2;rw[hx3]at q3;rw[hnu]at q4;have d0:=(hcc _).trans q0;have d1:=(hcc _).trans q1;have d2:=(hcc _).trans q2;have d3:=(hcc _).trans q3;have d4:=(hcc _).trans q4;have hu:=Tryz.underlying62;have HCL:Hid _:=hcall;have HW0:Hid (wr.alloc (.cells #[.int .i64 x0,.int .i64 x1,.int .i64 x2,.int .i64 x3,.slice au nu cu] 62)=W0):=hW0;have HK0:Hid (Nt.Kw w #[.slice (some ⟨g,off,none⟩) n cn,.slice af m cf] W0):=K0;have HB:Hid (Nt.oneB ns[j]=b):=by show _=_;rw[hx];exact hb
   clear hcall hcc q0 q1 q2 q3 q4 hT hx hx0 hx1 hx2 hx3 hnu hg hW0 K0 G0 hb hsz
   go_wp2_with fail
   rw[HW0.out];refine Calls.mono HCL.out ?_;rintro e W2 ⟨rfl,hb2⟩;have K2:Hid (Nt.Kw w #[.slice (some ⟨g,off,none⟩) n cn,.slice af m cf] W2):=HK0.out.next hb2;clear hb2 HCL HW0 d0 d1 d2 d3 d4
   cases b with
   |true=>
    go_wp2;go_roundg (gk-1)
    case measure=>omega
    case rel=>
     refine⟨j+1,by omega,by go_num,K2.out,λi hi hij=> ?_⟩
     rcases Nat.lt_or_ge i j with h|h
     ·exact HI.out.2 i hi h
     obtain rfl:i=j:=by omega
     exact HB.out
   |false=>
    obtain⟨c0,c1⟩:=c
    have HE:Hid (1=c0/\j=c1):=by
     have hq:=Nt.head_filter (n:=ns.length) (p:=λi=> !((ns[i]?.map Nt.oneB).getD true)) (k:=j) hjl (by simp only[List.getElem?_eq_getElem hjl];simp[HB.out]) (λi hi=>by
      have hil:i<ns.length:=by omega
      simp only[List.getElem?_eq_getElem hil]
      simp[HI.out.2 i hil hi])
     have hw:Nt.wrongAt ns fs 0=(List.range ns.length).filter (λi=> !((ns[i]?.map Nt.oneB).getD true)):=by
      show Nt.wrong1 ns fs=_;rw[Nt.wrong1,if_neg (by simp[Nt.hugeB,HH.out.2.1,HH.out.2.2];have:=h2;simp at this;omega)]
     have:=Nt.check_at (ns:=ns) (fs:=fs) (j:=0) (a:=j) (by omega) (λi hi=>by omega) (by rw[hw];exact hq.2) (by rw[hw];exact hq.1);rw[HC.out]at this;exact⟨(congrArg Prod.fst this).symm,(congrArg Prod.snd this).symm⟩
    obtain⟨rfl,rfl⟩:=HE.out;have hans:=K2.out.ans;clear HE
    go_wp2_with (refine wpList_store_row rfl 123 _ _ rfl (w.heap.size+1) #[.int .i64 1,.int .i64 (j:Int)] rfl rfl 123 #[.int .i64 0,.int .i64 0] hans (by kernel_rfl) rfl (by kernel_rfl) ?_)
    exact bodyPost_ret (v:=.agg #[.int .i64 1,.int .i64 (j:Int)]) (K2.out.ends 1 j _ rfl).1 rfl ⟨rfl,(K2.out.ends 1 j #[undef,undef,.pointer (some ⟨w.heap.size+1,0,none⟩)] rfl).2⟩
  have hd:decide ((j:Int)<n)=false:=decide_eq_false (by omega)
  have HW1:Hid (Nt.wrongAt ns fs 0= []):=by
   show Nt.wrong1 ns fs= [];rw[Nt.wrong1,if_neg (by simp[Nt.hugeB,HH.out.2.1,HH.out.2.2];have:=h2;simp at this;omega)];exact Nt.filter_none λi hi=>by simp only[List.getElem?_eq_getElem hi];simp[HI.out.2 i hi (by have:=HH.out.2.1;omega)]
  obtain⟨-,p0,p1⟩:=HHW.out wr HI.out.1;obtain⟨KA,hKA⟩:∃z:World,wr=z:=⟨_,rfl⟩;have HKI:Hid (Nt.Kw w #[.slice an n cn,.slice af m cf] wr):=HI.out.1;clear HI hKA KA;go_wp2;clear p0 p1
  go_loopg [42] m (λgk s42 wr=>∃j:Nat,gk+j=m/\s42=.int .i64 j/\Hid (Nt.Kw w #[.slice an n cn,.slice af m cf] wr/\∀i (h:i<fs.length),i<j->Nt.twoB ns fs fs[i]=true))
  case atStart=>exact⟨0,by omega,rfl,HKI.out,λi _ h=>by omega⟩
  case round=>
   obtain⟨j2,hj2,rfl,HJ⟩:=hrel;clear HKI
   by_cases hlt2:j2<m
   ·have hd2:decide ((j2:Int)<m)=true:=decide_eq_true (by omega)
    have hjl:j2<fs.length:=by rw[HH.out.2.2];exact hlt2
    obtain⟨g,off,u,rfl,hg,q0,q1,q2,q3,q4,q5,hT⟩:=HH.out.1.fls j2 hjl;obtain⟨au,cu,rfl⟩:=hT.shape;obtain⟨x,hx⟩:=pE (fs[j2]);have hsz:=HH.out.1.fsz _ (List.getElem_mem hjl);rw[hx]at q0 q1 q2 q3 q4 q5 hT hsz;have hcc:∀o,wr.cell? ⟨g,o,none⟩=w.cell? ⟨g,o,none⟩:=λo=>HJ.out.1.below.cell (p:=⟨g,o,none⟩) hg;obtain⟨W0,hW0⟩:=pE (wr.alloc (.cells #[.int .i64 x.fr,.int .i64 x.to,.bool x.els,.int .i64 x.c.op,.int .i64 x.c.num,.slice au x.c.ks.length cu] 64));have K0:Nt.Kw w #[.slice an n cn,.slice (some ⟨g,off,none⟩) m cf] W0:=by rw[<-hW0];exact HJ.out.1.alloc _
    have G0:W0.heap[wr.heap.size]? =some (.cells #[.int .i64 x.fr,.int .i64 x.to,.bool x.els,.int .i64 x.c.op,.int .i64 x.c.num,.slice au x.c.ks.length cu] 64 (0,0)):=by rw[<-hW0];exact heap_alloc_new wr _
    have hcall:=Tryz.rtwo_any x (.slice au x.c.ks.length cu) an cn (some ⟨g,off,none⟩) cf d ns fs W0 (HHW.out W0 K0).1 ((hT.below K0.below).wider K0.below.size) hsz;obtain⟨-,p0,p1⟩:=HHW.out wr HJ.out.1;obtain⟨x0,hx0⟩:=pE (x.fr);obtain⟨x1,hx1⟩:=pE (x.to);obtain⟨x2,hx2⟩:=pE (x.els);obtain⟨x3,hx3⟩:=pE (x.c.op);obtain⟨x4,hx4⟩:=pE (x.c.num);obtain⟨nu,hnu⟩:=pE (x.c.ks.length);obtain⟨b,hb⟩:=pE (Nt.twoB ns fs x);rw[hx0,hx1,hx2,hx3,hx4,hnu,hb,HH.out.2.1,HH.out.2.2]at hcall;rw[hx0,hx1,hx2,hx3,hx4,hnu]at hW0 G0;rw[hx0]at q0;rw[hx1]at q1;rw[hx2]at q2;rw[hx3]at q3;rw[hx4]at q4;rw[hnu]at q5;have d0:=(hcc _).trans q0;have d1:=(hcc _).trans q1;have d2:=(hcc _).trans q2;have d3:=(hcc _).trans q3;have d4:=(hcc _).trans q4;have d5:=(hcc _).trans q5;have hu:=Tryz.underlying64;have hbl:w.heap.size<wr.heap.size:=Nt.lt_of HJ.out.1.box;have HCL:Hid _:=hcall;have HW0:Hid (wr.alloc (.cells #[.int .i64 x0,.int .i64 x1,.bool x2,.int .i64 x3,.int .i64 x4,.slice au nu cu] 64)=W0):=hW0;have HK0:Hid (Nt.Kw w #[.slice an n cn,.slice (some ⟨g,off,none⟩) m cf] W0):=K0;have HB:Hid (Nt.twoB ns fs fs[j2]=b):=by show _=_;rw[hx];exact hb
    clear hcall hcc q0 q1 q2 q3 q4 q5 hT hx hx0 hx1 hx2 hx3 hx4 hnu hg hW0 K0 G0 hb hsz
    go_wp2_with fail
    rw[HW0.out];refine Calls.mono HCL.out ?_;rintro e W2 ⟨rfl,hb2⟩;have K2:Hid (Nt.Kw w #[.slice an n cn,.slice (some ⟨g,off,none⟩) m cf] W2):=HK0.out.next hb2;clear hb2 HCL HW0 d0 d1 d2 d3 d4 d5 p0 p1
    cases b with
    |true=>
     go_wp2;go_roundg (gk-1)
     case measure=>omega
     case rel=>
      refine⟨j2+1,by omega,by go_num,K2.out,λi hi hij=> ?_⟩
      rcases Nat.lt_or_ge i j2 with h|h
      ·exact HJ.out.2 i hi h
      obtain rfl:i=j2:=by omega
      exact HB.out
    |false=>
     obtain⟨c0,c1⟩:=c
     have HE:Hid (2=c0/\j2=c1):=by
      have hq:=Nt.head_filter (n:=fs.length) (p:=λi=> !((fs[i]?.map (Nt.twoB ns fs)).getD true)) (k:=j2) hjl (by simp only[List.getElem?_eq_getElem hjl];simp[HB.out]) (λi hi=>by
       have hil:i<fs.length:=by omega
       simp only[List.getElem?_eq_getElem hil]
       simp[HJ.out.2 i hil hi])
      have:=Nt.check_at (ns:=ns) (fs:=fs) (j:=1) (a:=j2) (by omega) (λi hi=>by
       obtain rfl:i=0:=(by omega)
       exact HW1.out) hq.2 hq.1
      rw[HC.out]at this;exact⟨(congrArg Prod.fst this).symm,(congrArg Prod.snd this).symm⟩
     obtain⟨rfl,rfl⟩:=HE.out;have hans:=K2.out.ans;clear HE
     go_wp2_with (refine wpList_store_row rfl 123 _ _ rfl (w.heap.size+1) #[.int .i64 2,.int .i64 (j2:Int)] rfl rfl 123 #[.int .i64 0,.int .i64 0] hans (by kernel_rfl) rfl (by kernel_rfl) ?_)
     exact bodyPost_ret (v:=.agg #[.int .i64 2,.int .i64 (j2:Int)]) (K2.out.ends 2 j2 _ rfl).1 rfl ⟨rfl,(K2.out.ends 2 j2 #[undef,undef,.pointer (some ⟨w.heap.size+1,0,none⟩)] rfl).2⟩
   have hd2:decide ((j2:Int)<m)=false:=decide_eq_false (by omega)
   have HW2:Hid (Nt.wrongAt ns fs 1= []):=by
    show Nt.wrong2 ns fs= [];exact Nt.filter_none λi hi=>by simp only[List.getElem?_eq_getElem hi];simp[HJ.out.2 i hi (by have:=HH.out.2.2;omega)]
   have HKJ:Hid (Nt.Kw w #[.slice an n cn,.slice af m cf] wr):=HJ.out.1;clear HJ;obtain⟨s,hs⟩:=pE (Nt.firstI ns 1);obtain⟨t,ht⟩:=pE (Nt.firstI ns 2)
   have CF1:Hid (∀W,Nt.Kw w #[.slice an n cn,.slice af m cf] W->Calls Tryz.prog 111 #[.agg #[.slice an n cn,.slice af m cf],.int .i64 1] W λe w'=>e=.returned (.int .i64 s)/\Hid (Nt.Kw w #[.slice an n cn,.slice af m cf] w')):=λW h=>by
    have q:=Tryz.rFirst_any 1 an cn d af m cf ns W (HHW.out W h).1.nds (HHW.out W h).1.nlen;rw[hs,HH.out.2.1]at q;exact q.mono λe w' z=>⟨z.1,h.next z.2⟩
   have CF2:Hid (∀W,Nt.Kw w #[.slice an n cn,.slice af m cf] W->Calls Tryz.prog 111 #[.agg #[.slice an n cn,.slice af m cf],.int .i64 2] W λe w'=>e=.returned (.int .i64 t)/\Hid (Nt.Kw w #[.slice an n cn,.slice af m cf] w')):=λW h=>by
    have q:=Tryz.rFirst_any 2 an cn d af m cf ns W (HHW.out W h).1.nds (HHW.out W h).1.nlen;rw[ht,HH.out.2.1]at q;exact q.mono λe w' z=>⟨z.1,h.next z.2⟩
   have HST:Hid (Nt.firstI ns 1=s/\Nt.firstI ns 2=t):=⟨hs,ht⟩
   have HFT:Hid (∀f,f∈fs->0<=f.fr/\f.fr<ns.length/\0<=f.to/\f.to<ns.length):=λf hf=>by
    have:=Nt.two_keeps (ns:=ns) (fs:=fs) (by rw[show Nt.wrong2 ns fs= []from HW2.out];rfl) f hf;exact⟨this.1,this.2.1,this.2.2.1,this.2.2.2.1⟩
   obtain⟨-,p0,p1⟩:=HHW.out wr HKJ.out;clear hs ht
   go_wp2_with fail
   refine Calls.mono (CF1.out wr HKJ.out) ?_;rintro e W3 ⟨rfl,K3⟩;clear p0 p1 CF1 HKJ;obtain⟨-,p0,p1⟩:=HHW.out W3 K3.out
   go_wp2_with fail
   refine Calls.mono (CF2.out W3 K3.out) ?_;rintro e W4 ⟨rfl,K4⟩;clear p0 p1 CF2 K3;obtain⟨-,p0,p1⟩:=HHW.out W4 K4.out;go_wp2;clear p0 p1
   go_loopg [61] n (λgk s61 wr=>∃j:Nat,gk+j=n/\s61=.int .i64 j/\Hid (Nt.Kw w #[.slice an n cn,.slice af m cf] wr/\∀i (h:i<ns.length),i<j->Nt.jointB ns fs i=true))
   case atStart=>exact⟨0,by omega,rfl,K4.out,λi _ h=>by omega⟩
   case round=>
    obtain⟨j3,hj3,rfl,HM⟩:=hrel;clear K4
    by_cases hlt3:j3<n
    rotate_left
    ·have hd3:decide ((j3:Int)<n)=false:=decide_eq_false (by omega)
     have HF3:Hid (((List.range ns.length).filter λi=> !Nt.jointB ns fs i)= []):=Nt.filter_none λi hi=>by rw[HM.out.2 i hi (by have:=HH.out.2.1;omega)];rfl
     obtain⟨-,p0,p1⟩:=HHW.out wr HM.out.1;have K2:Hid (Nt.Kw w #[.slice an n cn,.slice af m cf] wr):=HM.out.1;clear HM
     by_cases hlost:s<0∨t<0
     ·obtain⟨c0,c1⟩:=c
      have HE:Hid (3=c0/\n=c1):=by
       have hw:Nt.wrongAt ns fs 2= [n]:=by
        show Nt.wrong3 ns fs= [n];rw[Nt.wrong3,HF3.out,Nt.lostB,HST.out.1,HST.out.2,if_pos (by simp;exact hlost),HH.out.2.1];rfl
       have:=Nt.check_at (ns:=ns) (fs:=fs) (j:=2) (a:=n) (by omega) (λi hi=>by
        match i,hi with
        |0,_=>exact HW1.out
        |1,_=>exact HW2.out) (by rw[hw];simp) (by rw[hw];rfl)
       rw[HC.out]at this;exact⟨(congrArg Prod.fst this).symm,(congrArg Prod.snd this).symm⟩
      obtain⟨rfl,rfl⟩:=HE.out;have hans:=K2.out.ans
      obtain l1|⟨l1,l2⟩:decide (s<0)=true∨(decide (s<0)=false/\decide (t<0)=true):=by simp;omega
      all_goals
       clear HE hlost
       go_wp2_with (refine wpList_store_row rfl 123 _ _ rfl (w.heap.size+1) #[.int .i64 3,.int .i64 (n:Int)] rfl rfl 123 #[.int .i64 0,.int .i64 0] hans (by kernel_rfl) rfl (by kernel_rfl) ?_)
       exact bodyPost_ret (v:=.agg #[.int .i64 3,.int .i64 (n:Int)]) (K2.out.ends 3 n _ rfl).1 rfl ⟨rfl,(K2.out.ends 3 n #[undef,undef,.pointer (some ⟨w.heap.size+1,0,none⟩)] rfl).2⟩
     have l1:decide (s<0)=false:=decide_eq_false (by omega);have l2:decide (t<0)=false:=decide_eq_false (by omega)
     have HW3:Hid (Nt.wrongAt ns fs 2= []):=by
      show Nt.wrong3 ns fs= [];rw[Nt.wrong3,HF3.out,Nt.lostB,HST.out.1,HST.out.2,if_neg (by simp;omega)];rfl
     obtain⟨sn,hsn⟩:∃z:Nat,s=z:=⟨s.toNat,by omega⟩;obtain⟨tn,htn⟩:∃z:Nat,t=z:=⟨t.toNat,by omega⟩;subst hsn;subst htn;have hsl:sn<ns.length:=by have:=Nt.firstI_lt ns 1;have:=HST.out.1;omega
     have htl:tn<ns.length:=by have:=Nt.firstI_lt ns 2;have:=HST.out.2;omega
     have CR:Hid (∀(a:Nat) (W:World),a<n->Nt.Kw w #[.slice an n cn,.slice af m cf] W->Calls Tryz.prog 113 #[.agg #[.slice an n cn,.slice af m cf],.int .i64 a] W λe w'=>∃g,e=.returned (.slice (some ⟨g,0,none⟩) n n)/\Hid (Below W.heap.size W w'/\g<w'.heap.size/\∀i,i<n->w'.cell? ⟨g,i,none⟩=some (.bool (Rk.met (Nt.edges fs) a i)))):=λa W ha h=>by
      have q:=Tryz.rReach_any a an cn af cf d ns fs W (HHW.out W h).1 (by rw[HH.out.2.1];exact hn24) HFT.out (by rw[HH.out.2.1];exact ha);rw[HH.out.2.1,HH.out.2.2]at q;refine q.mono λe w' ⟨g,he,_,hbt,hbb⟩=>⟨g,he,hbb,hbt.lt,λi hi=>hbt.cell i _ (by simp[hi])⟩
     have hsn':sn<n:=by have:=HH.out.2.1;omega
     have htn':(tn:Int)<n:=by have:=HH.out.2.1;omega
     have htn0:(0:Int)<=tn:=by omega
     have htnn:tn<n:=by omega
     have HRB:Hid (∀i,Nt.roadB ns fs i=(Rk.met (Nt.edges fs) sn i&&Rk.met (Nt.edges fs) i tn)):=λi=>by
      unfold Nt.roadB;rw[HST.out.1,HST.out.2];rfl
     clear hlost HF3 hsl htl
     go_wp2_with fail
     refine Calls.mono (CR.out sn wr hsn' K2.out) ?_;rintro e W5 ⟨gs,rfl,B5⟩;have K5:Hid (Nt.Kw w #[.slice an n cn,.slice af m cf] W5):=K2.out.next B5.out.1;clear p0 p1;obtain⟨-,p0,p1⟩:=HHW.out W5 K5.out;go_wp2;clear p0 p1
     go_loopg [109] n (λgk s109 wr=>∃j:Nat,gk+j=n/\s109=.int .i64 j/\Hid (Nt.Kw w #[.slice an n cn,.slice af m cf] wr/\Below W5.heap.size W5 wr/\∀i,i<j->Nt.roadB ns fs i=true))
     case atStart=>exact⟨0,by omega,rfl,K5.out,Below.refl _ _,λi h=>by omega⟩
     case round=>
      obtain⟨j4,hj4,rfl,HQ⟩:=hrel
      by_cases hlt4:j4<n
      rotate_left
      ·have hd4:decide ((j4:Int)<n)=false:=decide_eq_false (by omega)
       obtain⟨c0,c1⟩:=c
       have HE:Hid (0=c0/\0=c1):=by
        have:=Nt.check_none (ns:=ns) (fs:=fs) (λi hi=>by
         match i,hi with
         |0,_=>exact HW1.out
         |1,_=>exact HW2.out
         |2,_=>exact HW3.out
         |3,_=>
          show Nt.wrong4 ns fs= []
          exact Nt.filter_none λi hi=>by rw[HQ.out.2.2 i (by have:=HH.out.2.1;omega)];rfl)
        rw[HC.out]at this;exact⟨(congrArg Prod.fst this).symm,(congrArg Prod.snd this).symm⟩
       obtain⟨rfl,rfl⟩:=HE.out;have hans:=HQ.out.1.ans;clear HE
       go_wp2_with (refine wpList_store_row rfl 123 _ _ rfl (w.heap.size+1) #[.int .i64 0,.int .i64 0] rfl rfl 123 #[.int .i64 0,.int .i64 0] hans (by kernel_rfl) rfl (by kernel_rfl) ?_)
       exact bodyPost_ret (v:=.agg #[.int .i64 0,.int .i64 0]) (HQ.out.1.ends 0 0 _ rfl).1 rfl ⟨rfl,(HQ.out.1.ends 0 0 #[undef,undef,.pointer (some ⟨w.heap.size+1,0,none⟩)] rfl).2⟩
      have hd4:decide ((j4:Int)<n)=true:=decide_eq_true (by omega);have hj4':(j4:Int)<n:=by omega
      have hj40:(0:Int)<=j4:=by omega
      obtain⟨-,p0,p1⟩:=HHW.out wr HQ.out.1
      go_wp2_with fail
      refine Calls.mono (CR.out j4 wr hlt4 HQ.out.1) ?_;rintro e W6 ⟨gb,rfl,B6⟩;have K2:Hid (Nt.Kw w #[.slice an n cn,.slice af m cf] W6):=HQ.out.1.next B6.out.1;have B56:Hid (Below W5.heap.size W5 W6):=HQ.out.2.1.trans (B6.out.1.mono HQ.out.2.1.size);have z1:W6.cell? ⟨gs,j4,none⟩=some (.bool (Rk.met (Nt.edges fs) sn j4)):=by rw[B56.out.cell (p:=⟨gs,j4,none⟩) B5.out.2.1];exact B5.out.2.2 j4 hlt4
      have z2:W6.cell? ⟨gb,tn,none⟩=some (.bool (Rk.met (Nt.edges fs) j4 tn)):=B6.out.2.2 tn htnn;have HRJ:Hid (Nt.roadB ns fs j4=(Rk.met (Nt.edges fs) sn j4&&Rk.met (Nt.edges fs) j4 tn)):=HRB.out j4;obtain⟨r1,hr1⟩:=pE (Rk.met (Nt.edges fs) sn j4);obtain⟨r2,hr2⟩:=pE (Rk.met (Nt.edges fs) j4 tn);rw[hr1]at z1 HRJ;rw[hr2]at z2 HRJ;clear p0 p1 B6 hr1 hr2
      by_cases hrr:(r1&&r2)=true
      ·obtain⟨rfl,rfl⟩:r1=true/\r2=true:=by simpa using hrr
       clear hrr;go_wp2;go_roundg (gk-1)
       case measure=>omega
       case rel=>
        refine⟨j4+1,by omega,by go_num,K2.out,B56.out,λi hij=> ?_⟩
        rcases Nat.lt_or_ge i j4 with h|h
        ·exact HQ.out.2.2 i h
        obtain rfl:i=j4:=by omega
        rw[HRJ.out];rfl
      obtain⟨c0,c1⟩:=c
      have HE:Hid (4=c0/\j4=c1):=by
       have hq:=Nt.head_filter (n:=ns.length) (p:=λi=> !Nt.roadB ns fs i) (k:=j4) (by rw[HH.out.2.1];exact hlt4) (by show(!Nt.roadB ns fs j4)=true;rw[HRJ.out];revert hrr;cases r1<;>cases r2<;>simp) (λi hi=>by show(!Nt.roadB ns fs i)=false;rw[HQ.out.2.2 i hi];rfl)
       have:=Nt.check_at (ns:=ns) (fs:=fs) (j:=3) (a:=j4) (by omega) (λi hi=>by
        match i,hi with
        |0,_=>exact HW1.out
        |1,_=>exact HW2.out
        |2,_=>exact HW3.out) hq.2 hq.1
       rw[HC.out]at this;exact⟨(congrArg Prod.fst this).symm,(congrArg Prod.snd this).symm⟩
      obtain⟨rfl,rfl⟩:=HE.out;have hans:=K2.out.ans;clear HE
      cases r1
      ·clear hrr
       go_wp2_with (refine wpList_store_row rfl 123 _ _ rfl (w.heap.size+1) #[.int .i64 4,.int .i64 (j4:Int)] rfl rfl 123 #[.int .i64 0,.int .i64 0] hans (by kernel_rfl) rfl (by kernel_rfl) ?_)
       exact bodyPost_ret (v:=.agg #[.int .i64 4,.int .i64 (j4:Int)]) (K2.out.ends 4 j4 _ rfl).1 rfl ⟨rfl,(K2.out.ends 4 j4 #[undef,undef,.pointer (some ⟨w.heap.size+1,0,none⟩)] rfl).2⟩
      cases r2
      ·clear hrr
       go_wp2_with (refine wpList_store_row rfl 123 _ _ rfl (w.heap.size+1) #[.int .i64 4,.int .i64 (j4:Int)] rfl rfl 123 #[.int .i64 0,.int .i64 0] hans (by kernel_rfl) rfl (by kernel_rfl) ?_)
       exact bodyPost_ret (v:=.agg #[.int .i64 4,.int .i64 (j4:Int)]) (K2.out.ends 4 j4 _ rfl).1 rfl ⟨rfl,(K2.out.ends 4 j4 #[undef,undef,.pointer (some ⟨w.heap.size+1,0,none⟩)] rfl).2⟩
      exact absurd rfl hrr
    have hd3:decide ((j3:Int)<n)=true:=decide_eq_true (by omega);have hjl:j3<ns.length:=by rw[HH.out.2.1];exact hlt3
    obtain⟨g,off,u,rfl,hg,q0,q1,q2,q3,q4,hT⟩:=HH.out.1.nds j3 hjl;obtain⟨au,cu,rfl⟩:=hT.shape;obtain⟨x0,hx0⟩:=pE (ns[j3].kind);obtain⟨x1,hx1⟩:=pE (ns[j3].a);obtain⟨x2,hx2⟩:=pE (ns[j3].t.op);obtain⟨x3,hx3⟩:=pE (ns[j3].t.num);obtain⟨nu,hnu⟩:=pE (ns[j3].t.ks.length);rw[hx0]at q0;rw[hx1]at q1;rw[hx2]at q2;rw[hx3]at q3;rw[hnu]at q4;have hcc:∀o,wr.cell? ⟨g,o,none⟩=w.cell? ⟨g,o,none⟩:=λo=>HM.out.1.below.cell (p:=⟨g,o,none⟩) hg;have d0:=(hcc _).trans q0;have d1:=(hcc _).trans q1;have d2:=(hcc _).trans q2;have d3:=(hcc _).trans q3;have d4:=(hcc _).trans q4;have hu:=Tryz.underlying62;obtain⟨W0,hW0⟩:=pE (wr.alloc (.cells #[.int .i64 x0,.int .i64 x1,.int .i64 x2,.int .i64 x3,.slice au nu cu] 62));have K0:Nt.Kw w #[.slice (some ⟨g,off,none⟩) n cn,.slice af m cf] W0:=by rw[<-hW0];exact HM.out.1.alloc _
    have G0:W0.heap[wr.heap.size]? =some (.cells #[.int .i64 x0,.int .i64 x1,.int .i64 x2,.int .i64 x3,.slice au nu cu] 62 (0,0)):=by rw[<-hW0];exact heap_alloc_new wr _
    have hcall:=Tryz.rthree_any j3 (some ⟨g,off,none⟩) cn af cf d ns fs W0 (HHW.out W0 K0).1 (λf hf=>(HFT.out f hf).2.2) hjl;obtain⟨b,hb⟩:=pE (Nt.threeB ns fs j3);rw[hb,HH.out.2.1,HH.out.2.2]at hcall;have hje:=Nt.joint_eq (ns:=ns) (fs:=fs) hjl;rw[hb,hx0,HST.out.1,HST.out.2]at hje;have HJE:Hid _:=hje;have HCL:Hid _:=hcall;have HW0:Hid (wr.alloc (.cells #[.int .i64 x0,.int .i64 x1,.int .i64 x2,.int .i64 x3,.slice au nu cu] 62)=W0):=hW0;have HK0:Hid (Nt.Kw w #[.slice (some ⟨g,off,none⟩) n cn,.slice af m cf] W0/\W0.heap[wr.heap.size]? =some (.cells #[.int .i64 x0,.int .i64 x1,.int .i64 x2,.int .i64 x3,.slice au nu cu] 62 (0,0))):=⟨K0,G0⟩;obtain⟨-,p0,p1⟩:=HHW.out wr HM.out.1;have hbl:w.heap.size<wr.heap.size:=Nt.lt_of HM.out.1.box;clear hcall hcc q0 q1 q2 q3 q4 hT hx0 hx1 hx2 hx3 hnu hg hW0 K0 G0 hb hje
    go_wp2_with fail
    rw[HW0.out];refine Calls.mono HCL.out ?_;rintro e W2 ⟨rfl,hb2⟩;have K2:Hid (Nt.Kw w #[.slice (some ⟨g,off,none⟩) n cn,.slice af m cf] W2):=HK0.out.1.next hb2
    have hkc:W2.cell? ⟨wr.heap.size,0,none⟩=some (.int .i64 x0):=by
     have:W2.heap[wr.heap.size]? =some (.cells #[.int .i64 x0,.int .i64 x1,.int .i64 x2,.int .i64 x3,.slice au nu cu] 62 (0,0)):=by rw[hb2.block _ (Nt.lt_of HK0.out.2)];exact HK0.out.2
     simp[World.cell?,this]
    clear hb2 HCL HW0 d0 d1 d2 d3 d4 p0 p1 HK0
    cases b with
    |false=>
     have HJB:Hid ((!Nt.jointB ns fs j3)=true):=by show _=_;rw[HJE.out];rfl
     clear HJE;obtain⟨c0,c1⟩:=c
     have HE:Hid (3=c0/\j3=c1):=by
      have hq:=Nt.head_filter (n:=ns.length) (p:=λi=> !Nt.jointB ns fs i) (k:=j3) hjl (by show(!Nt.jointB ns fs j3)=true;exact HJB.out) (λi hi=>by show(!Nt.jointB ns fs i)=false;rw[HM.out.2 i (by omega) hi];rfl);have hw:Nt.wrongAt ns fs 2=((List.range ns.length).filter λi=> !Nt.jointB ns fs i)++(if Nt.lostB ns=true then [ns.length]else []):=rfl
      have:=Nt.check_at (ns:=ns) (fs:=fs) (j:=2) (a:=j3) (by omega) (λi hi=>by
       match i,hi with
       |0,_=>exact HW1.out
       |1,_=>exact HW2.out) (by rw[hw];intro h;exact hq.2 (List.append_eq_nil_iff.1 h).1) (by
       rw[hw];obtain⟨a,l,he⟩:=List.exists_cons_of_ne_nil hq.2;have h1:=hq.1;rw[he]at h1⊢
       simpa using h1)
      rw[HC.out]at this;exact⟨(congrArg Prod.fst this).symm,(congrArg Prod.snd this).symm⟩
     obtain⟨rfl,rfl⟩:=HE.out;have hans:=K2.out.ans;clear HE
     go_upto_region 21 with fail
     go_wp2_with (refine wpList_store_row rfl 123 _ _ rfl (w.heap.size+1) #[.int .i64 3,.int .i64 (j3:Int)] rfl rfl 123 #[.int .i64 0,.int .i64 0] hans (by kernel_rfl) rfl (by kernel_rfl) ?_)
     exact bodyPost_ret (v:=.agg #[.int .i64 3,.int .i64 (j3:Int)]) (K2.out.ends 3 j3 _ rfl).1 rfl ⟨rfl,(K2.out.ends 3 j3 #[undef,undef,.pointer (some ⟨w.heap.size+1,0,none⟩)] rfl).2⟩
    |true=>
     by_cases k1:x0=1
     ·subst k1
      by_cases hgt:s<(j3:Int)
      rotate_left
      ·have e1:decide (s<(j3:Int))=false:=decide_eq_false hgt
       have HJB:Hid ((!Nt.jointB ns fs j3)=false):=by show _=_;rw[HJE.out,e1];rfl
       clear HJE hgt;go_wp2;go_roundg (gk-1)
       case measure=>omega
       case rel=>
        refine⟨j3+1,by omega,by go_num,K2.out,λi hi hij=> ?_⟩
        rcases Nat.lt_or_ge i j3 with h|h
        ·exact HM.out.2 i hi h
        obtain rfl:i=j3:=by omega
        simpa using HJB.out
      have e1:decide (s<(j3:Int))=true:=decide_eq_true hgt;have HJB:Hid ((!Nt.jointB ns fs j3)=true):=by show _=_;rw[HJE.out,e1];rfl
      clear HJE hgt;obtain⟨c0,c1⟩:=c
      have HE:Hid (3=c0/\j3=c1):=by
       have hq:=Nt.head_filter (n:=ns.length) (p:=λi=> !Nt.jointB ns fs i) (k:=j3) hjl (by show(!Nt.jointB ns fs j3)=true;exact HJB.out) (λi hi=>by show(!Nt.jointB ns fs i)=false;rw[HM.out.2 i (by omega) hi];rfl);have hw:Nt.wrongAt ns fs 2=((List.range ns.length).filter λi=> !Nt.jointB ns fs i)++(if Nt.lostB ns=true then [ns.length]else []):=rfl
       have:=Nt.check_at (ns:=ns) (fs:=fs) (j:=2) (a:=j3) (by omega) (λi hi=>by
        match i,hi with
        |0,_=>exact HW1.out
        |1,_=>exact HW2.out) (by rw[hw];intro h;exact hq.2 (List.append_eq_nil_iff.1 h).1) (by
        rw[hw];obtain⟨a,l,he⟩:=List.exists_cons_of_ne_nil hq.2;have h1:=hq.1;rw[he]at h1⊢
        simpa using h1)
       rw[HC.out]at this;exact⟨(congrArg Prod.fst this).symm,(congrArg Prod.snd this).symm⟩
      obtain⟨rfl,rfl⟩:=HE.out;have hans:=K2.out.ans;clear HE
      go_upto_region 21 with fail
      go_wp2_with (refine wpList_store_row rfl 123 _ _ rfl (w.heap.size+1) #[.int .i64 3,.int .i64 (j3:Int)] rfl rfl 123 #[.int .i64 0,.int .i64 0] hans (by kernel_rfl) rfl (by kernel_rfl) ?_)
      exact bodyPost_ret (v:=.agg #[.int .i64 3,.int .i64 (j3:Int)]) (K2.out.ends 3 j3 _ rfl).1 rfl ⟨rfl,(K2.out.ends 3 j3 #[undef,undef,.pointer (some ⟨w.heap.size+1,0,none⟩)] rfl).2⟩
     have f1:(x0==1)=false:=by simpa using k1
     by_cases k2:x0=2
     rotate_left
     ·have f2:(x0==2)=false:=by simpa using k2
      have HJB:Hid ((!Nt.jointB ns fs j3)=false):=by show _=_;rw[HJE.out,decide_eq_false k1,decide_eq_false k2];rfl
      clear HJE k1 k2;go_wp2;go_roundg (gk-1)
      case measure=>omega
      case rel=>
       refine⟨j3+1,by omega,by go_num,K2.out,λi hi hij=> ?_⟩
       rcases Nat.lt_or_ge i j3 with h|h
       ·exact HM.out.2 i hi h
       obtain rfl:i=j3:=by omega
       simpa using HJB.out
     subst k2
     by_cases hgt:t<(j3:Int)
     rotate_left
     ·have e1:decide (t<(j3:Int))=false:=decide_eq_false hgt
      have HJB:Hid ((!Nt.jointB ns fs j3)=false):=by show _=_;rw[HJE.out,e1];rfl
      clear HJE hgt k1;go_wp2;go_roundg (gk-1)
      case measure=>omega
      case rel=>
       refine⟨j3+1,by omega,by go_num,K2.out,λi hi hij=> ?_⟩
       rcases Nat.lt_or_ge i j3 with h|h
       ·exact HM.out.2 i hi h
       obtain rfl:i=j3:=by omega
       simpa using HJB.out
     have e1:decide (t<(j3:Int))=true:=decide_eq_true hgt;have HJB:Hid ((!Nt.jointB ns fs j3)=true):=by show _=_;rw[HJE.out,e1];rfl
     clear HJE hgt k1;obtain⟨c0,c1⟩:=c
     have HE:Hid (3=c0/\j3=c1):=by
      have hq:=Nt.head_filter (n:=ns.length) (p:=λi=> !Nt.jointB ns fs i) (k:=j3) hjl (by show(!Nt.jointB ns fs j3)=true;exact HJB.out) (λi hi=>by show(!Nt.jointB ns fs i)=false;rw[HM.out.2 i (by omega) hi];rfl);have hw:Nt.wrongAt ns fs 2=((List.range ns.length).filter λi=> !Nt.jointB ns fs i)++(if Nt.lostB ns=true then [ns.length]else []):=rfl
      have:=Nt.check_at (ns:=ns) (fs:=fs) (j:=2) (a:=j3) (by omega) (λi hi=>by
       match i,hi with
       |0,_=>exact HW1.out
       |1,_=>exact HW2.out) (by rw[hw];intro h;exact hq.2 (List.append_eq_nil_iff.1 h).1) (by
       rw[hw];obtain⟨a,l,he⟩:=List.exists_cons_of_ne_nil hq.2;have h1:=hq.1;rw[he]at h1⊢
       simpa using h1)
      rw[HC.out]at this;exact⟨(congrArg Prod.fst this).symm,(congrArg Prod.snd this).symm⟩
     obtain⟨rfl,rfl⟩:=HE.out;have hans:=K2.out.ans;clear HE
     go_upto_region 21 with fail
     go_wp2_with (refine wpList_store_row rfl 123 _ _ rfl (w.heap.size+1) #[.int .i64 3,.int .i64 (j3:Int)] rfl rfl 123 #[.int .i64 0,.int .i64 0] hans (by kernel_rfl) rfl (by kernel_rfl) ?_)
     exact bodyPost_ret (v:=.agg #[.int .i64 3,.int .i64 (j3:Int)]) (K2.out.ends 3 j3 _ rfl).1 rfl ⟨rfl,(K2.out.ends 3 j3 #[undef,undef,.pointer (some ⟨w.heap.size+1,0,none⟩)] rfl).2⟩
end Go.Proofs
namespace Go.Proofs
namespace Dd
def cnt (n:Nat)(s:List Int):Nat:=(List.range n).countP λk=>decide (s.getD (40+k) 0<2)
structure After (ls kk:List (Int×Int))(s:List Int)(kid:Nat)(t:List Int):Prop where
 inv:Inv ls kk t
 calm:Calm ls kk t
 l:∀i,i<40->s.getD i 0≠0->t.getD i 0=s.getD i 0
 k:∀j,j<64->j≠kid->s.getD (40+j) 0≠0->t.getD (40+j) 0=s.getD (40+j) 0
 self:t.getD (40+kid) 0=2
 d:∀j,j<64->¬Auto kk j->(t.getD (40+j) 0=2↔s.getD (40+j) 0=2∨j=kid)
def Free (ls:List (Int×Int))(rk:Nat->Nat):Prop:=∀(i f t:Nat),ls[i]? =some ((f:Int),(t:Int))->rk f<rk t
end Dd
end Go.Proofs
