import Derived.Test.YtenaelpdnccgnaaGreatDoorQNtCount
set_option maxRecDepth 100000
set_option maxHeartbeats 32000000
namespace Go.Proofs
open Go.RowKit Go.Shelf
theorem Tryz.jointRight_other (k:Int)(i:Nat)(a b el ot:Nat)(g o2 n cn:Nat)(af:Option Addr)(m cf:Nat)(w:World)(hg:g<w.heap.size)(hi:i<n)(_hn:n<=100)(hkc:w.cell? ⟨g,o2+i*5,none⟩=some (.int .i64 k))(k1:(k==1)=false)(k2:(k==2)=false)(k5:(k==5)=false)(k6:(k==6)=false)(k7:(k==7)=false)
  (hL:∀W,Below w.heap.size w W->Calls Tryz.prog 153 #[.agg #[.slice (some ⟨g,o2,none⟩) n cn,.slice af m cf],.int .i64 i] W λe w'=>e=.returned (.bool (decide (ot=0)))/\Below W.heap.size W w'):
  Calls Tryz.prog 135 #[.agg #[.slice (some ⟨g,o2,none⟩) n cn,.slice af m cf],.int .i64 i,.agg #[.int .i64 a,.int .i64 b,.int .i64 el]] w λe w'=>e=.returned (.bool (Nt.joinB k a b el ot))/\Below w.heap.size w w':=by
 obtain⟨w1,hw1⟩:=pE ((w.alloc (.cells #[.slice (some ⟨g,o2,none⟩) n cn,.slice af m cf] 30)).alloc (.cells #[.int .i64 a,.int .i64 b,.int .i64 el] 166));have A1:Below w.heap.size w w1:=by rw[<-hw1];exact((Below.refl _ w).alloc (Nat.le_refl _) _).alloc (by simp) _
 have HL:Hid _:=hL w1 A1;have HA:Hid (Below w.heap.size w w1):=A1;have H1:Hid ((w.alloc (.cells #[.slice (some ⟨g,o2,none⟩) n cn,.slice af m cf] 30)).alloc (.cells #[.int .i64 a,.int .i64 b,.int .i64 el] 166)=w1):=hw1;have hi':(i:Int)<n:=by omega
 have hi0:(0:Int)<=i:=by omega
 obtain⟨z,hz⟩:=pE (decide (ot=0));rw[hz]at HL;obtain⟨r,hr⟩:=pE (Nt.joinB k a b el ot);rw[hr];rw[show Nt.joinB k a b el ot=decide (a=1/\b=1)from by rw[Nt.joinB,if_neg (by simpa using k1),if_neg (by simpa using k2),if_neg (by simpa using k5),if_neg (by simpa using k6),if_neg (by simpa using k7)]]at hr;have HR:Hid (decide (a=1/\b=1)=r/\decide (ot=0)=z):=⟨hr,hz⟩
 have hA:(((a:Int)==0)=true/\((a:Int)==1)=false/\decide ((1:Int)<a)=false/\Hid (a=0))∨(((a:Int)==0)=false/\((a:Int)==1)=true/\decide ((1:Int)<a)=false/\Hid (a=1))∨(((a:Int)==0)=false/\((a:Int)==1)=false/\decide ((1:Int)<a)=true/\Hid (2<=a)):=by
  rcases Nat.lt_or_ge a 1 with h|h
  ·exact .inl ⟨by simp;omega,by simp;omega,by simp;omega,by show a=0;omega⟩
  rcases Nat.lt_or_ge a 2 with h|h
  ·exact .inr (.inl ⟨by simp;omega,by simp;omega,by simp;omega,by show a=1;omega⟩)
  exact .inr (.inr ⟨by simp;omega,by simp;omega,by simp;omega,h⟩)
 have hB:(((b:Int)==0)=true/\((b:Int)==1)=false/\decide ((1:Int)<b)=false/\Hid (b=0))∨(((b:Int)==0)=false/\((b:Int)==1)=true/\decide ((1:Int)<b)=false/\Hid (b=1))∨(((b:Int)==0)=false/\((b:Int)==1)=false/\decide ((1:Int)<b)=true/\Hid (2<=b)):=by
  rcases Nat.lt_or_ge b 1 with h|h
  ·exact .inl ⟨by simp;omega,by simp;omega,by simp;omega,by show b=0;omega⟩
  rcases Nat.lt_or_ge b 2 with h|h
  ·exact .inr (.inl ⟨by simp;omega,by simp;omega,by simp;omega,by show b=1;omega⟩)
  exact .inr (.inr ⟨by simp;omega,by simp;omega,by simp;omega,h⟩)
 clear hL hw1 A1 hz hr
 rcases hA with⟨a0,a1,a2,a3⟩|⟨a0,a1,a2,a3⟩|⟨a0,a1,a2,a3⟩<;>rcases hB with⟨b0,b1,b2,b3⟩|⟨b0,b1,b2,b3⟩|⟨b0,b1,b2,b3⟩
 all_goals
  clear HL
  go_enter Tryz.func135,Tryz.ntmps135
  go_wp2;go_ret;rw[H1.out];refine⟨Tk.ret_bool ?_,HA.out⟩;rw[<-HR.out.1];have x1:=a3.out;have x2:=b3.out
  first|exact(decide_eq_true (by omega)).symm|exact(decide_eq_false (by omega)).symm
theorem Tryz.jointRight_event (i:Nat)(a b el ot:Nat)(g o2 n cn:Nat)(af:Option Addr)(m cf:Nat)(w:World)(hg:g<w.heap.size)(hi:i<n)(_hn:n<=100)(hkc:w.cell? ⟨g,o2+i*5,none⟩=some (.int .i64 7))
  (hL:∀W,Below w.heap.size w W->Calls Tryz.prog 153 #[.agg #[.slice (some ⟨g,o2,none⟩) n cn,.slice af m cf],.int .i64 i] W λe w'=>e=.returned (.bool (decide (ot=0)))/\Below W.heap.size W w'):
  Calls Tryz.prog 135 #[.agg #[.slice (some ⟨g,o2,none⟩) n cn,.slice af m cf],.int .i64 i,.agg #[.int .i64 a,.int .i64 b,.int .i64 el]] w λe w'=>e=.returned (.bool (Nt.joinB 7 a b el ot))/\Below w.heap.size w w':=by
 obtain⟨w1,hw1⟩:=pE ((w.alloc (.cells #[.slice (some ⟨g,o2,none⟩) n cn,.slice af m cf] 30)).alloc (.cells #[.int .i64 a,.int .i64 b,.int .i64 el] 166));have A1:Below w.heap.size w w1:=by rw[<-hw1];exact((Below.refl _ w).alloc (Nat.le_refl _) _).alloc (by simp) _
 have HL:Hid _:=hL w1 A1;have HA:Hid (Below w.heap.size w w1):=A1;have H1:Hid ((w.alloc (.cells #[.slice (some ⟨g,o2,none⟩) n cn,.slice af m cf] 30)).alloc (.cells #[.int .i64 a,.int .i64 b,.int .i64 el] 166)=w1):=hw1;have hi':(i:Int)<n:=by omega
 have hi0:(0:Int)<=i:=by omega
 obtain⟨z,hz⟩:=pE (decide (ot=0));rw[hz]at HL;obtain⟨r,hr⟩:=pE (Nt.joinB 7 a b el ot);rw[hr];rw[show Nt.joinB 7 a b el ot=decide (a=1/\2<=b/\ot=0)from by simp[Nt.joinB]]at hr;have HR:Hid (decide (a=1/\2<=b/\ot=0)=r/\decide (ot=0)=z):=⟨hr,hz⟩
 have hA:(((a:Int)==0)=true/\((a:Int)==1)=false/\decide ((1:Int)<a)=false/\Hid (a=0))∨(((a:Int)==0)=false/\((a:Int)==1)=true/\decide ((1:Int)<a)=false/\Hid (a=1))∨(((a:Int)==0)=false/\((a:Int)==1)=false/\decide ((1:Int)<a)=true/\Hid (2<=a)):=by
  rcases Nat.lt_or_ge a 1 with h|h
  ·exact .inl ⟨by simp;omega,by simp;omega,by simp;omega,by show a=0;omega⟩
  rcases Nat.lt_or_ge a 2 with h|h
  ·exact .inr (.inl ⟨by simp;omega,by simp;omega,by simp;omega,by show a=1;omega⟩)
  exact .inr (.inr ⟨by simp;omega,by simp;omega,by simp;omega,h⟩)
 have hB:(((b:Int)==0)=true/\((b:Int)==1)=false/\decide ((1:Int)<b)=false/\Hid (b=0))∨(((b:Int)==0)=false/\((b:Int)==1)=true/\decide ((1:Int)<b)=false/\Hid (b=1))∨(((b:Int)==0)=false/\((b:Int)==1)=false/\decide ((1:Int)<b)=true/\Hid (2<=b)):=by
  rcases Nat.lt_or_ge b 1 with h|h
  ·exact .inl ⟨by simp;omega,by simp;omega,by simp;omega,by show b=0;omega⟩
  rcases Nat.lt_or_ge b 2 with h|h
  ·exact .inr (.inl ⟨by simp;omega,by simp;omega,by simp;omega,by show b=1;omega⟩)
  exact .inr (.inr ⟨by simp;omega,by simp;omega,by simp;omega,h⟩)
 clear hL hw1 A1 hz hr
 rcases hA with⟨a0,a1,a2,a3⟩|⟨a0,a1,a2,a3⟩|⟨a0,a1,a2,a3⟩<;>rcases hB with⟨b0,b1,b2,b3⟩|⟨b0,b1,b2,b3⟩|⟨b0,b1,b2,b3⟩
 case inr.inl.inr.inr=>
  go_enter Tryz.func135,Tryz.ntmps135
  go_wp2_with fail
  rw[H1.out];refine Calls.mono HL.out ?_;rintro e W ⟨rfl,hb⟩;have B2:Hid (Below w.heap.size w W):=HA.out.trans (hb.mono HA.out.size);clear hb HL;go_wp2;go_ret;refine⟨Tk.ret_bool ?_,B2.out⟩;rw[<-HR.out.1,<-HR.out.2];have x1:=a3.out;have x2:=b3.out;exact decide_eq_decide.2 (by omega)
 all_goals
  clear HL
  go_enter Tryz.func135,Tryz.ntmps135
  go_wp2;go_ret;rw[H1.out];refine⟨Tk.ret_bool ?_,HA.out⟩;rw[<-HR.out.1];have x1:=a3.out;have x2:=b3.out
  first|exact(decide_eq_true (by omega)).symm|exact(decide_eq_false (by omega)).symm
theorem Nt.arr_new (W w2:World)(cs:Array Value)(h:(W.alloc (.cells Tryz.zeroCells167 167)).setRow W.heap.size cs=w2):w2.heap[W.heap.size]? =some (.cells cs 167 (0,0))/\Below W.heap.size W w2/\w2.heap.size=W.heap.size+1:=by
 subst h;refine⟨setRow_heap _ _ _ _ _ _ (heap_alloc_new W _),Tk.below_row ((Below.refl _ W).alloc (Nat.le_refl _) _) (Nat.le_refl _) _,by simp[World.setRow]⟩
theorem Tryz.wrongFlows_any (an:Option Addr)(cn:Nat)(af:Option Addr)(cf d:Nat)(ns:List Nd)(fs:List Fl)(w:World)(hH:Nt.Has w w.heap.size d an af ns fs)(hO:Tk.Ops w)(hn:ns.length<=24):
  Calls Tryz.prog 101 #[.agg #[.slice an ns.length cn,.slice af fs.length cf]] w λe w'=>Nt.Gives (Nt.wrong2 ns fs) w e w':=by
 obtain⟨w1,hw1⟩:=pE (w.alloc (.cells #[.slice an ns.length cn,.slice af fs.length cf] 30));have A1:=pB hw1
 have C0:w1.heap[w.heap.size]? =some (.cells #[.slice an ns.length cn,.slice af fs.length cf] 30 (0,0)):=by rw[<-hw1];exact heap_alloc_new w _
 have hc:=Tryz.count_any an ns.length cn af cf d fs w1 ((hH.fls.below A1).wider A1.size) hH.flen hn;obtain⟨n,hnn⟩:=pE (ns.length);obtain⟨m,hmm⟩:=pE (fs.length);obtain⟨l,hl⟩:=pE (Nt.wrong2 ns fs)
 have HP:Hid (∀(w2:World) (cs:Array Value) (bj:Nat),Below w1.heap.size w1 w2->Nt.Joints cs fs n->w2.heap[bj]? =some (.cells cs 167 (0,0))->
   Calls Tryz.prog 125 #[.int .i64 m,.func (.func 129) #[] #[.pointer (some ⟨w.heap.size,0,none⟩),.pointer (some ⟨bj,0,none⟩)]] w2 λe w'=>∃v,e=.returned v/\w'.ownsRow w2.heap.size 3 1 v l.length (Rk.nums l)/\Below w2.heap.size w2 w'):=λw2 cs bj hb2 hJ hbj=>by
  have hb1:Below w.heap.size w w2:=A1.trans (hb2.mono A1.size)
  have h:=Tryz.places_any (λi=> !((fs[i]?.map (Nt.twoB ns fs)).getD true)) 129 #[.pointer (some ⟨w.heap.size,0,none⟩),.pointer (some ⟨bj,0,none⟩)] Nt.enters_flows fs.length w2 (λW k hk hb=>by
   have hbw:Below w.heap.size w W:=hb1.trans (hb.mono hb1.size)
   have h:=Tryz.flows1_any k w.heap.size bj an cn af cf w.heap.size d ns fs cs W (hH.below hbw) hbw.size hk hn (hO.below hbw hO.lt) (by rw[hnn];exact hJ)
    ⟨by rw[(hb2.trans (hb.mono hb2.size)).block _ (Nt.lt_of C0)];exact C0,by rw[hb.block _ (Nt.lt_of hbj)];exact hbj⟩
   refine h.mono λe w' h=>⟨?_,h.2⟩;show e=Ending.returned (Value.bool (!((fs[k]?.map (Nt.twoB ns fs)).getD true)));rw[h.1,List.getElem?_eq_getElem hk]
   rfl) (by have:=hH.flen;omega)
  rw[show(List.range fs.length).filter (λi=> !((fs[i]?.map (Nt.twoB ns fs)).getD true))=l from hl,hmm]at h;exact h
 have HBX:Hid (∀w2,Below w1.heap.size w1 w2->w2.cell? ⟨w.heap.size,0,none⟩=some (.slice an n cn)/\w2.cell? ⟨w.heap.size,1,none⟩=some (.slice af m cf)):=λw2 hb=>by
  have:=Nt.box2 ((hb.block _ (Nt.lt_of C0)).trans C0);rw[hnn,hmm]at this;exact this
 rw[hnn,hmm]at hc hw1;rw[hl,hnn,hmm];have HC:Hid _:=hc;have H1:Hid (w.alloc (.cells #[.slice an n cn,.slice af m cf] 30)=w1):=hw1;have HA:Hid (Below w.heap.size w w1):=A1;have HL:Hid (fs.length=m/\m<=100):=⟨hmm,by have:=hH.flen;omega⟩;clear hc hH hO hn hnn hmm hl hw1 A1 C0
 go_enter Tryz.func101,Tryz.ntmps101
 go_wp2_with fail
 rw[H1.out];refine Calls.mono HC.out ?_;rintro e W1 ⟨cs,rfl,hJ,hb⟩;have B1:Hid (Below w1.heap.size w1 W1):=hb;have HJ:Hid (Nt.Joints cs fs n):=hJ;have hi:(Tryz.prog.info? 167).map (·.size)=some cs.size:=by rw[hJ.1];kernel_rfl
 have hi1:Tryz.zeroCells167.size=cs.size:=by rw[hJ.1];kernel_rfl
 obtain⟨w2,hw2⟩:=pE ((W1.alloc (.cells Tryz.zeroCells167 167)).setRow W1.heap.size cs);have HN:Hid _:=Nt.arr_new W1 w2 cs hw2;have HW2:Hid ((W1.alloc (.cells Tryz.zeroCells167 167)).setRow W1.heap.size cs=w2):=hw2;have B2:Hid (Below w1.heap.size w1 w2):=B1.out.trans (HN.out.2.1.mono B1.out.size);have HZ:Hid _:=heap_alloc_new W1 (.cells Tryz.zeroCells167 167);obtain⟨p0,p1⟩:=HBX.out w2 B2.out;clear hb hJ HC hw2
 go_wp2_with (refine wpList_store_row rfl 167 _ _ rfl W1.heap.size cs rfl rfl 167 Tryz.zeroCells167 (by exact HZ.out) hi hi1 HJ.out.2.1 ?_;rw[HW2.out])
 refine Calls.mono (HP.out w2 cs W1.heap.size B2.out HJ.out HN.out.1) ?_;rintro e W3 ⟨v,rfl,how,hb3⟩;have B3:Hid (W3.ownsRow w.heap.size 3 1 v l.length (Rk.nums l)/\Below w.heap.size w W3):=⟨Nt.own_lower how (Nat.le_trans HA.out.size B2.out.size),HA.out.trans ((B2.out.trans (hb3.mono B2.out.size)).mono HA.out.size)⟩;clear hb3 HP how;go_wp2;go_ret;exact⟨v,rfl,B3.out.1,B3.out.2⟩
def Nt.findI {α:Type}(p:α->Bool)(l:List α):Int:=match l.findIdx? p with
 |some i=>(i:Int)
 |none=> -1
theorem Nt.firstI_eq (ns:List Nd)(k:Int):Nt.firstI ns k=Nt.findI (λx=>decide (x.kind=k)) ns:=rfl
theorem Nt.findI_at {α:Type}{p:α->Bool}{l:List α}{k:Nat}(hk:k<l.length)(h:(l.take k).any p=false)(hp:p l[k]=true):Nt.findI p l=k:=by
 have:l.findIdx? p=some k:=by
  refine List.findIdx?_eq_some_iff_getElem.2 ⟨hk,hp,λj hj=> ?_⟩
  have h2:=List.any_eq_false.1 h l[j] (by
   refine List.mem_iff_getElem.2 ⟨j,by simp;omega,by simp⟩)
  simpa using h2
 rw[Nt.findI,this]
theorem Nt.findI_none {α:Type}{p:α->Bool}{l:List α}(h:l.any p=false):Nt.findI p l= -1:=by
 have:l.findIdx? p=none:=List.findIdx?_eq_none_iff.2 λx hx=>by simpa using List.any_eq_false.1 h x hx
 rw[Nt.findI,this]
def Nt.Pred (g:Nat)(lb:Array Value)(p:Nd->Bool)(ns:List Nd)(w:World):Prop:=
 ∀(W:World) (x:Nd) (a:Option Addr) (n c:Nat),x∈ns->Below w.heap.size w W->Calls Tryz.prog g (#[.agg #[.int .i64 x.kind,.int .i64 x.a,.int .i64 x.t.op,.int .i64 x.t.num,.slice a n c]]++lb) W λe w'=>e=.returned (.bool (p x))/\Below w.heap.size w w'
theorem Tryz.nindex_any (p:Nd->Bool)(g:Nat)(lb:Array Value)(eg:∀args w,(callFunc g args).run Tryz.prog w=.ok (.enter g args) w)(a:Option Addr)(c d:Nat)(ns:List Nd)(w:World)
  (hp:Nt.Pred g lb p ns w) (hE:Nt.Nds w w.heap.size d a ns) (hn:ns.length<=100):
  Calls Tryz.prog 114 #[.slice a ns.length c,.func (.func g) #[] lb] w λe w'=>e=.returned (.int .i64 (Nt.findI p ns))/\Below w.heap.size w w':=by
 obtain⟨n,hnn⟩:=pE (ns.length);rw[hnn]at hn⊢;obtain⟨r,hr⟩:=pE (Nt.findI p ns);rw[hr];have HR:Hid (Nt.findI p ns=r):=hr;have HP:Hid (Nt.Pred g lb p ns w):=hp;have HE:Hid (Nt.Nds w w.heap.size d a ns/\ns.length=n):=⟨hE,hnn⟩;clear hp hE hnn hr
 go_enter Tryz.func114,Tryz.ntmps114
 go_wp2
 go_loopg [5,8] n (λgk _ s8 wr=>∃k:Nat,gk+k=n/\s8=.int .i64 k/\Hid (Below w.heap.size w wr/\(ns.take k).any p=false))
 case atStart=>exact⟨0,by omega,rfl,Below.refl _ w,by simp⟩
 case round=>
  obtain⟨k,hk,rfl,HB⟩:=hrel
  by_cases hlt:k<n
  rotate_left
  ·have hd:decide ((k:Int)<n)=false:=decide_eq_false (by omega)
   go_wp2;go_ret;have:=HB.out.2;rw[List.take_of_length_le (by rw[HE.out.2];omega)]at this;exact⟨Tk.ret_int ((Nt.findI_none this).symm.trans HR.out),HB.out.1⟩
  have hd:decide ((k:Int)<n)=true:=decide_eq_true (by omega);have hkl:k<ns.length:=by rw[HE.out.2];exact hlt
  obtain⟨q,off,u,rfl,hq,h0,h1,h2,h3,h4,h5⟩:=HE.out.1 k hkl;obtain⟨au,cu,rfl⟩:=h5.shape;obtain⟨nu,hnu⟩:=pE (ns[k].t.ks.length);rw[hnu]at h4;obtain⟨x0,hx0⟩:=pE (ns[k].kind);obtain⟨x1,hx1⟩:=pE (ns[k].a);obtain⟨x2,hx2⟩:=pE (ns[k].t.op);obtain⟨x3,hx3⟩:=pE (ns[k].t.num);have hcall:=HP.out wr ns[k] au nu cu (List.getElem_mem hkl) HB.out.1;rw[hx0,hx1,hx2,hx3]at hcall;have hc:∀o,wr.cell? ⟨q,o,none⟩=w.cell? ⟨q,o,none⟩:=λo=>HB.out.1.cell (p:=⟨q,o,none⟩) hq;have hc0:wr.cell? ⟨q,off+k*5,none⟩=some (.int .i64 x0):=by rw[hc,<-hx0];exact h0
  have hc1:wr.cell? ⟨q,off+k*5+1,none⟩=some (.int .i64 x1):=by rw[hc,<-hx1];exact h1
  have hc2:wr.cell? ⟨q,off+k*5+2,none⟩=some (.int .i64 x2):=by rw[hc,<-hx2];exact h2
  have hc3:wr.cell? ⟨q,off+k*5+3,none⟩=some (.int .i64 x3):=by rw[hc,<-hx3];exact h3
  have hc4:wr.cell? ⟨q,off+k*5+4,none⟩=some (.slice au nu cu):=by rw[hc];exact h4
  have hu:=Tryz.underlying62;clear h0 h1 h2 h3 h4 h5 hc hx0 hx1 hx2 hx3 hnu hq
  cases hq:p ns[k]with
  |true=>
   rw[hq]at hcall;have HQ:Hid (p ns[k]=true):=hq;have HC:Hid _:=hcall;clear hq hcall
   go_wp2_with fail
   refine Calls.mono HC.out ?_;rintro e w' ⟨rfl,hb'⟩;have HW:Hid (Below w.heap.size w w'):=hb';clear hb' HC;go_wp2;go_ret;exact⟨Tk.ret_int ((Nt.findI_at hkl HB.out.2 HQ.out).symm.trans HR.out),HW.out⟩
  |false=>
   rw[hq]at hcall;have HQ:Hid (p ns[k]=false):=hq;have HC:Hid _:=hcall;clear hq hcall
   go_wp2_with fail
   refine Calls.mono HC.out ?_;rintro e w' ⟨rfl,hb'⟩;have HW:Hid (Below w.heap.size w w'):=hb';clear hb' HC;go_wp2;go_roundg (gk-1)
   case measure=>omega
   case rel=>
    refine⟨k+1,by omega,by go_num,HW.out, ?_⟩;rw[Tm.take_snoc _ _ hkl,List.any_append,HB.out.2];simp[HQ.out]
theorem Tryz.first1_any (k kind a op num:Int)(x:Option Addr)(n c b:Nat)(w:World)(hb:b<w.heap.size)(hc:w.cell? ⟨b,0,none⟩=some (.int .i64 k)):
  Calls Tryz.prog 156 #[.agg #[.int .i64 kind,.int .i64 a,.int .i64 op,.int .i64 num,.slice x n c],.pointer (some ⟨b,0,none⟩)] w λe w'=>e=.returned (.bool (decide (kind=k)))/\Below w.heap.size w w':=by
 have B0:Hid (Below w.heap.size w (w.alloc (.cells #[.int .i64 kind,.int .i64 a,.int .i64 op,.int .i64 num,.slice x n c] 62))):=(Below.refl _ w).alloc (Nat.le_refl _) _;have hc':(w.alloc (.cells #[.int .i64 kind,.int .i64 a,.int .i64 op,.int .i64 num,.slice x n c] 62)).cell? ⟨b,0,none⟩=some (.int .i64 k):=by rw[B0.out.cell (p:=⟨b,0,none⟩) hb];exact hc
 have hne:b≠w.heap.size:=by omega
 clear hb
 go_enter Tryz.func156,Tryz.ntmps156
 go_wp2;go_ret;exact⟨Tk.ret_bool rfl,B0.out⟩
theorem Nt.enters_first:∀args w,(callFunc 156 args).run Tryz.prog w=.ok (.enter 156 args) w:=enters_of Tryz.func156 (by kernel_rfl) rfl
theorem Tryz.first_any (k:Int)(an:Option Addr)(cn d:Nat)(af:Option Addr)(m cf:Nat)(ns:List Nd)(w:World)(hE:Nt.Nds w w.heap.size d an ns)(hn:ns.length<=100):
  Calls Tryz.prog 152 #[.agg #[.slice an ns.length cn,.slice af m cf],.int .i64 k] w λe w'=>e=.returned (.int .i64 (Nt.firstI ns k))/\Below w.heap.size w w':=by
 obtain⟨w1,hw1⟩:=pE ((w.alloc (.cells #[.slice an ns.length cn,.slice af m cf] 30)).alloc (.cells #[.int .i64 k] 3));have A1:Below w.heap.size w w1:=by rw[<-hw1];exact((Below.refl _ w).alloc (Nat.le_refl _) _).alloc (by simp) _
 have hs1:w1.heap.size=w.heap.size+2:=by rw[<-hw1];simp
 have C1:w1.cell? ⟨w.heap.size+1,0,none⟩=some (.int .i64 k):=by
  rw[<-hw1];have:=heap_alloc_new (w.alloc (.cells #[.slice an ns.length cn,.slice af m cf] 30)) (.cells #[.int .i64 k] 3);simp at this;simp[World.cell?,this]
 have h:=Tryz.nindex_any (λx=>decide (x.kind=k)) 156 #[.pointer (some ⟨w.heap.size+1,0,none⟩)] Nt.enters_first an cn d ns w1 (λW x a n c _ hb=>by
  have h:=Tryz.first1_any k x.kind x.a x.t.op x.t.num a n c (w.heap.size+1) W (by have:=hb.size;omega) (by rw[hb.cell (p:=⟨w.heap.size+1,0,none⟩) (by show w.heap.size+1<w1.heap.size;omega)];exact C1)
  exact h.mono λe w' h=>⟨h.1,hb.trans (h.2.mono hb.size)⟩) ((hE.below A1).wider A1.size) hn
 rw[<-Nt.firstI_eq]at h;obtain⟨r,hr⟩:=pE (Nt.firstI ns k);obtain⟨n,hnn⟩:=pE (ns.length);rw[hr,hnn]at h;rw[hr,hnn];rw[hnn]at hw1;have HC:Hid _:=h;have H1:Hid ((w.alloc (.cells #[.slice an n cn,.slice af m cf] 30)).alloc (.cells #[.int .i64 k] 3)=w1):=hw1;have HA:Hid (Below w.heap.size w w1):=A1;clear h hE hn hr hnn hw1 A1 hs1 C1
 go_enter Tryz.func152,Tryz.ntmps152
 go_wp2_with fail
 rw[H1.out];refine Calls.mono HC.out ?_;rintro e W ⟨rfl,hb⟩;have B2:Hid (Below w.heap.size w W):=HA.out.trans (hb.mono HA.out.size);clear hb HC;go_wp2;go_ret;exact⟨rfl,B2.out⟩
theorem Tryz.nStart_any (an:Option Addr)(cn d:Nat)(af:Option Addr)(m cf:Nat)(ns:List Nd)(w:World)(hE:Nt.Nds w w.heap.size d an ns)(hn:ns.length<=100):
  Calls Tryz.prog 132 #[.agg #[.slice an ns.length cn,.slice af m cf]] w λe w'=>e=.returned (.int .i64 (Nt.firstI ns 1))/\Below w.heap.size w w':=by
 have A1:Below w.heap.size w (w.alloc (.cells #[.slice an ns.length cn,.slice af m cf] 30)):=(Below.refl _ w).alloc (Nat.le_refl _) _;have h:=Tryz.first_any 1 an cn d af m cf ns _ ((hE.below A1).wider A1.size) hn;obtain⟨r,hr⟩:=pE (Nt.firstI ns 1);obtain⟨n,hnn⟩:=pE (ns.length);rw[hr,hnn]at h;rw[hr,hnn];rw[hnn]at A1;have HC:Hid _:=h;have HA:Hid _:=A1;clear h hE hn hr hnn A1
 go_enter Tryz.func132,Tryz.ntmps132
 go_wp2_with fail
 refine Calls.mono HC.out ?_;rintro e W ⟨rfl,hb⟩;have B2:Hid (Below w.heap.size w W):=HA.out.trans (hb.mono HA.out.size);clear hb HC;go_wp2;go_ret;exact⟨rfl,B2.out⟩
theorem Tryz.nEnd_any (an:Option Addr)(cn d:Nat)(af:Option Addr)(m cf:Nat)(ns:List Nd)(w:World)(hE:Nt.Nds w w.heap.size d an ns)(hn:ns.length<=100):
  Calls Tryz.prog 133 #[.agg #[.slice an ns.length cn,.slice af m cf]] w λe w'=>e=.returned (.int .i64 (Nt.firstI ns 2))/\Below w.heap.size w w':=by
 have A1:Below w.heap.size w (w.alloc (.cells #[.slice an ns.length cn,.slice af m cf] 30)):=(Below.refl _ w).alloc (Nat.le_refl _) _;have h:=Tryz.first_any 2 an cn d af m cf ns _ ((hE.below A1).wider A1.size) hn;obtain⟨r,hr⟩:=pE (Nt.firstI ns 2);obtain⟨n,hnn⟩:=pE (ns.length);rw[hr,hnn]at h;rw[hr,hnn];rw[hnn]at A1;have HC:Hid _:=h;have HA:Hid _:=A1;clear h hE hn hr hnn A1
 go_enter Tryz.func133,Tryz.ntmps133
 go_wp2_with fail
 refine Calls.mono HC.out ?_;rintro e W ⟨rfl,hb⟩;have B2:Hid (Below w.heap.size w W):=HA.out.trans (hb.mono HA.out.size);clear hb HC;go_wp2;go_ret;exact⟨rfl,B2.out⟩
end Go.Proofs
