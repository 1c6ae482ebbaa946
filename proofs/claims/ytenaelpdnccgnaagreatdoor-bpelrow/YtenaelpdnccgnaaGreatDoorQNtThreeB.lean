import Derived.Test.YtenaelpdnccgnaaGreatDoorQNtThreeX
import Derived.Test.YtenaelpdnccgnaaGreatDoorQNtThreeR
import Derived.Test.YtenaelpdnccgnaaGreatDoorQAllNtTwoB
import Derived.Deep.RegionHeld3
import Derived.Great.BuildSlice
set_option maxRecDepth 100000
set_option maxHeartbeats 32000000
namespace Go.Proofs
open Go.RowKit Go.Shelf
theorem Tryz.jointRight_any (i a b el:Nat)(an:Option Addr)(cn:Nat)(af:Option Addr)(cf d:Nat)(ns:List Nd)(fs:List Fl)(w:World)(hH:Nt.Has w w.heap.size d an af ns fs)(hto:∀f,f∈fs->0<=f.to/\f.to<ns.length)(hi:i<ns.length):
  Calls Tryz.prog 135 #[.agg #[.slice an ns.length cn,.slice af fs.length cf],.int .i64 i,.agg #[.int .i64 a,.int .i64 b,.int .i64 el]] w λe w'=>e=.returned (.bool (Nt.joinB (Nt.kindAt ns i) a b el (Nt.othersN ns fs i)))/\Below w.heap.size w w':=by
 have hL:∀W,Below w.heap.size w W->Calls Tryz.prog 153 #[.agg #[.slice an ns.length cn,.slice af fs.length cf],.int .i64 i] W λe w'=>e=.returned (.bool (decide (Nt.othersN ns fs i=0)))/\Below W.heap.size W w':=λW hb=>by
  rw[Nt.others_zero];exact Tryz.leads_any i an cn af cf d ns fs W ((hH.below hb).wider hb.size) hto
 obtain⟨g,o2,u,rfl,hg,e3,_⟩:=hH.nds i hi;rw[<-Nt.kindAt_get ns i hi]at e3;have hn:=hH.nlen
 generalize Nt.kindAt ns i=k at*
 by_cases k1:k=1
 ·subst k1;exact Tryz.jointRight_start i a b el _ g o2 _ cn af _ cf w hg hi hn e3 hL
 by_cases k2:k=2
 ·subst k2;exact Tryz.jointRight_end i a b el _ g o2 _ cn af _ cf w hg hi hn e3 hL
 by_cases k5:k=5
 ·subst k5;exact Tryz.jointRight_xor i a b el _ g o2 _ cn af _ cf w hg hi hn e3 hL
 by_cases k6:k=6
 ·subst k6;exact Tryz.jointRight_and i a b el _ g o2 _ cn af _ cf w hg hi hn e3 hL
 by_cases k7:k=7
 ·subst k7;exact Tryz.jointRight_event i a b el _ g o2 _ cn af _ cf w hg hi hn e3 hL
 exact Tryz.jointRight_other k i a b el _ g o2 _ cn af _ cf w hg hi hn e3 (by simpa using k1) (by simpa using k2) (by simpa using k5) (by simpa using k6) (by simpa using k7) hL
theorem Nt.enters_joints:∀args w,(callFunc 134 args).run Tryz.prog w=.ok (.enter 134 args) w:=enters_of Tryz.func134 (by kernel_rfl) rfl
theorem Tryz.joints1_any (i bn bj bs be:Nat)(an:Option Addr)(cn:Nat)(af:Option Addr)(cf B d:Nat)(ns:List Nd)(fs:List Fl)(cs:Array Value)(w:World)(hH:Nt.Has w B d an af ns fs)(hB:B<=w.heap.size)(hi:i<ns.length)(hn:ns.length<=24)(hto:∀f,f∈fs->0<=f.to/\f.to<ns.length)
  (hJ:Nt.Joints cs fs ns.length) (hC:Nt.Fc bn bj an cn af cf ns fs cs w) (hS:w.cell? ⟨bs,0,none⟩=some (.int .i64 (Nt.firstI ns 1))) (hE:w.cell? ⟨be,0,none⟩=some (.int .i64 (Nt.firstI ns 2))):
  Calls Tryz.prog 134 #[.int .i64 i,.pointer (some ⟨bn,0,none⟩),.pointer (some ⟨bs,0,none⟩),.pointer (some ⟨be,0,none⟩),.pointer (some ⟨bj,0,none⟩)] w λe w'=>e=.returned (.bool (!Nt.jointB ns fs i))/\Below w.heap.size w w':=by
 obtain⟨gn,on,u,rfl,hg,hkc,-⟩:=hH.nds i hi;rw[<-Nt.kindAt_get ns i hi]at hkc;obtain⟨p0,p1⟩:=Nt.box2 hC.box;obtain⟨j0,j1,j2⟩:=hJ.2.2 i hi;have q0:w.cell? ⟨bj,i*3,none⟩=some (.int .i64 (Nt.insN fs i)):=by have:=hC.jts;simp[World.cell?,this,j0]
 have q1:w.cell? ⟨bj,i*3+1,none⟩=some (.int .i64 (Nt.outsN fs i)):=by have:=hC.jts;simp[World.cell?,this,j1]
 have q2:w.cell? ⟨bj,i*3+2,none⟩=some (.int .i64 (Nt.elsesN fs i)):=by have:=hC.jts;simp[World.cell?,this,j2]
 have hcj:=λW (hb:Below w.heap.size w W)=>(Tryz.jointRight_any i (Nt.insN fs i) (Nt.outsN fs i) (Nt.elsesN fs i) (some ⟨gn,on,none⟩) cn af cf d ns fs W ((hH.below (hb.mono hB)).wider (Nat.le_trans hB hb.size)) hto hi);have hjb:Nt.jointB ns fs i=(Nt.joinB (Nt.kindAt ns i) (Nt.insN fs i) (Nt.outsN fs i) (Nt.elsesN fs i) (Nt.othersN ns fs i)&& !(decide (Nt.kindAt ns i=1)&& !decide ((i:Int)=Nt.firstI ns 1))&& !(decide (Nt.kindAt ns i=2)&& !decide ((i:Int)=Nt.firstI ns 2))):=rfl;obtain⟨tb,htb⟩:=pE (Nt.joinB (Nt.kindAt ns i) (Nt.insN fs i) (Nt.outsN fs i) (Nt.elsesN fs i) (Nt.othersN ns fs i));rw[htb]at hcj hjb;obtain⟨k,hk⟩:=pE (Nt.kindAt ns i);obtain⟨s,hs⟩:=pE (Nt.firstI ns 1);obtain⟨e,he⟩:=pE (Nt.firstI ns 2);obtain⟨ja,hja⟩:=pE (Nt.insN fs i);obtain⟨jb,hjbb⟩:=pE (Nt.outsN fs i);obtain⟨je,hje⟩:=pE (Nt.elsesN fs i);obtain⟨n,hnn⟩:=pE (ns.length);obtain⟨m,hmm⟩:=pE (fs.length);rw[hja,hjbb,hje,hnn,hmm]at hcj;rw[hja]at q0;rw[hjbb]at q1;rw[hje]at q2;rw[hnn]at p0;rw[hmm]at p1;rw[hk]at hkc;rw[hs]at hS;rw[he]at hE;rw[hk,hs,he]at hjb;rw[hjb];have hi':(i:Int)<n:=by omega
 have hi24:(i:Int)<24:=by omega
 have hi0:(0:Int)<=i:=by omega
 have CF:Hid (∀W,Below w.heap.size w W->W.cell? ⟨bn,0,none⟩=some (.slice (some ⟨gn,on,none⟩) n cn)/\W.cell? ⟨bn,1,none⟩=some (.slice af m cf)/\W.cell? ⟨bj,i*3,none⟩=some (.int .i64 ja)/\W.cell? ⟨bj,i*3+1,none⟩=some (.int .i64 jb)/\W.cell? ⟨bj,i*3+2,none⟩=some (.int .i64 je)):=λW hb=>by
  have hbn:=Nt.lt_of hC.box;have hbj:=Nt.lt_of hC.jts;exact⟨by rw[hb.cell (p:=⟨bn,0,none⟩) hbn];exact p0,by rw[hb.cell (p:=⟨bn,1,none⟩) hbn];exact p1,by rw[hb.cell (p:=⟨bj,i*3,none⟩) hbj];exact q0,by rw[hb.cell (p:=⟨bj,i*3+1,none⟩) hbj];exact q1,by rw[hb.cell (p:=⟨bj,i*3+2,none⟩) hbj];exact q2⟩
 have CJ:Hid (∀W,Below w.heap.size w W->Calls Tryz.prog 135 #[.agg #[.slice (some ⟨gn,on,none⟩) n cn,.slice af m cf],.int .i64 i,.agg #[.int .i64 ja,.int .i64 jb,.int .i64 je]] W λe w'=>e=.returned (.bool tb)/\Hid (Below w.heap.size w w')):=λW hb=>(hcj W hb).mono λe w' h=>⟨h.1,hb.trans (h.2.mono hb.size)⟩;have BR:Hid (Below w.heap.size w w):=Below.refl _ _;clear hH hB hi hn hto hJ hC hcj hjb htb hk hs he hja hjbb hje hnn hmm hg j0 j1 j2
 by_cases k1:k=1
 ·subst k1
  by_cases hsi:(i:Int)=s
  ·have e1:((i:Int) !=s)=false:=by simpa using hsi
   have HD:Hid ((!(tb&& !(decide ((1:Int)=1)&& !decide ((i:Int)=s))&& !(decide ((1:Int)=2)&& !decide ((i:Int)=e))))= !tb):=by show _=_;rw[decide_eq_true hsi];simp
   rw[HD.out];clear hsi
   go_enter Tryz.func134,Tryz.ntmps134
   go_upto_region 2 with fail
   go_region_held3 (λW=>W.cell? ⟨bn,0,none⟩=some (.slice (some ⟨gn,on,none⟩) n cn)/\W.cell? ⟨bn,1,none⟩=some (.slice af m cf)/\W.cell? ⟨bj,i*3,none⟩=some (.int .i64 ja)/\W.cell? ⟨bj,i*3+1,none⟩=some (.int .i64 jb)/\W.cell? ⟨bj,i*3+2,none⟩=some (.int .i64 je))
    (first|exact CF.out _ B3.out|exact CF.out _ BR.out.drew|exact CF.out _ BR.out)
    (first
    |(go_simp;go_at_call 135;refine Calls.mono (CJ.out _ ?_) ?_;(first|exact BR.out|exact BR.out.drew|exact Tk.below_drewN BR.out _);rintro e W3 ⟨rfl,B3⟩))
   all_goals
    clear CF CJ BR;go_simp;go_wp2;go_ret;exact⟨Tk.ret_bool rfl,B3.out⟩
  have e1:((i:Int) !=s)=true:=by simpa using hsi
  have HD:Hid ((!(tb&& !(decide ((1:Int)=1)&& !decide ((i:Int)=s))&& !(decide ((1:Int)=2)&& !decide ((i:Int)=e))))=true):=by show _=_;rw[decide_eq_false hsi];simp
  rw[HD.out];have BD:Hid (∀j,Below w.heap.size w (w.drewN j)):=λj=>Tk.below_drewN (Below.refl _ w) j;clear hsi CJ CF
  go_enter Tryz.func134,Tryz.ntmps134
  go_upto_region 2 with fail
  go_quiet (fail)
  go_wp2;go_ret;exact⟨rfl,BD.out _⟩
 have f1:(k==1)=false:=by simpa using k1
 by_cases k2:k=2
 rotate_left
 ·have f2:(k==2)=false:=by simpa using k2
  have HD:Hid ((!(tb&& !(decide (k=1)&& !decide ((i:Int)=s))&& !(decide (k=2)&& !decide ((i:Int)=e))))= !tb):=by show _=_;rw[decide_eq_false k1,decide_eq_false k2];simp
  rw[HD.out];clear k1 k2
  go_enter Tryz.func134,Tryz.ntmps134
  go_upto_region 2 with fail
  go_region_held3 (λW=>W.cell? ⟨bn,0,none⟩=some (.slice (some ⟨gn,on,none⟩) n cn)/\W.cell? ⟨bn,1,none⟩=some (.slice af m cf)/\W.cell? ⟨bj,i*3,none⟩=some (.int .i64 ja)/\W.cell? ⟨bj,i*3+1,none⟩=some (.int .i64 jb)/\W.cell? ⟨bj,i*3+2,none⟩=some (.int .i64 je))
   (first|exact CF.out _ B3.out|exact CF.out _ BR.out.drew|exact CF.out _ BR.out)
   (first
   |(go_simp;go_at_call 135;refine Calls.mono (CJ.out _ ?_) ?_;(first|exact BR.out|exact BR.out.drew|exact Tk.below_drewN BR.out _);rintro e W3 ⟨rfl,B3⟩))
  all_goals
   clear CF CJ BR;go_simp;go_wp2;go_ret;exact⟨Tk.ret_bool rfl,B3.out⟩
 subst k2
 by_cases hsi:(i:Int)=e
 ·have e1:((i:Int) !=e)=false:=by simpa using hsi
  have HD:Hid ((!(tb&& !(decide ((2:Int)=1)&& !decide ((i:Int)=s))&& !(decide ((2:Int)=2)&& !decide ((i:Int)=e))))= !tb):=by show _=_;rw[decide_eq_true hsi];simp
  rw[HD.out];clear hsi k1
  go_enter Tryz.func134,Tryz.ntmps134
  go_upto_region 2 with fail
  go_region_held3 (λW=>W.cell? ⟨bn,0,none⟩=some (.slice (some ⟨gn,on,none⟩) n cn)/\W.cell? ⟨bn,1,none⟩=some (.slice af m cf)/\W.cell? ⟨bj,i*3,none⟩=some (.int .i64 ja)/\W.cell? ⟨bj,i*3+1,none⟩=some (.int .i64 jb)/\W.cell? ⟨bj,i*3+2,none⟩=some (.int .i64 je))
   (first|exact CF.out _ B3.out|exact CF.out _ BR.out.drew|exact CF.out _ BR.out)
   (first
   |(go_simp;go_at_call 135;refine Calls.mono (CJ.out _ ?_) ?_;(first|exact BR.out|exact BR.out.drew|exact Tk.below_drewN BR.out _);rintro e W3 ⟨rfl,B3⟩))
  all_goals
   clear CF CJ BR;go_simp;go_wp2;go_ret;exact⟨Tk.ret_bool rfl,B3.out⟩
 have e1:((i:Int) !=e)=true:=by simpa using hsi
 have HD:Hid ((!(tb&& !(decide ((2:Int)=1)&& !decide ((i:Int)=s))&& !(decide ((2:Int)=2)&& !decide ((i:Int)=e))))=true):=by show _=_;rw[decide_eq_false hsi];simp
 rw[HD.out];have BD:Hid (∀j,Below w.heap.size w (w.drewN j)):=λj=>Tk.below_drewN (Below.refl _ w) j;clear hsi CJ CF k1
 go_enter Tryz.func134,Tryz.ntmps134
 go_upto_region 2 with fail
 go_quiet (fail)
 go_wp2;go_ret;exact⟨rfl,BD.out _⟩
theorem Nt.al {a w:World}(h:Below a.heap.size a w)(o:Obj):Below a.heap.size a (w.alloc o):=h.alloc h.size o
theorem Nt.dr {a w:World}(h:Below a.heap.size a w):Below a.heap.size a w.drew:=h.drew
theorem Nt.st {a w:World}(h:Below a.heap.size a w)(g o:Nat)(v:Value)(hg:a.heap.size<=g):Below a.heap.size a (w.setCell ⟨g,o,none⟩ v):=h.setCell (p:=⟨g,o,none⟩) hg v
theorem Nt.cn (w:World)(v:Value)(t:TypeId)(b:Nat)(hb:b=w.heap.size):(w.alloc (.cells #[v] t)).cell? ⟨b,0,none⟩=some v:=by
 subst hb;have:=heap_alloc_new w (.cells #[v] t);unfold World.cell?;rw[this];rfl
theorem Nt.co {w:World}{b:Nat}{v:Value}(o:Obj)(hb:b<w.heap.size)(h:w.cell? ⟨b,0,none⟩=some v):(w.alloc o).cell? ⟨b,0,none⟩=some v:=
 (World.cell?_of_block (w:=w) (Below.heap_alloc _ _ _ hb)).trans h
theorem Nt.ss {w:World}{b:Nat}{v:Value}(u:Value)(h:w.cell? ⟨b,0,none⟩=some u):(w.setCell ⟨b,0,none⟩ v).cell? ⟨b,0,none⟩=some v:=by
 unfold World.cell? at*;simp only[World.setCell,Array.getElem?_modify]
 cases hb:w.heap[b]? with
 |none=>simp[hb]at h
 |some o=>
  cases o with
  |cells cs t fz=>
   simp[hb]at h⊢;have:0<cs.size:=(Array.getElem?_eq_some_iff.1 h).1;simp[this]
  |_=>simp[hb]at h
theorem Nt.so {w:World}{b c:Nat}{v u:Value}(hne:b≠c)(h:w.cell? ⟨b,0,none⟩=some u):(w.setCell ⟨c,0,none⟩ v).cell? ⟨b,0,none⟩=some u:=
 (World.cell?_of_block (w:=w) (Below.heap_setCell _ _ _ _ hne)).trans h
def Nt.Old (W w':World):Prop:=(∀b o,b<W.heap.size->w'.cell? ⟨b,o,none⟩=W.cell? ⟨b,o,none⟩)/\(∀b o,b<W.heap.size->w'.frozen? ⟨b,o,none⟩=W.frozen? ⟨b,o,none⟩)/\W.heap.size<=w'.heap.size
theorem Nt.Old.of {W w':World}(h:Below W.heap.size W w'):Nt.Old W w':=
 ⟨λb o hb=>h.cell (p:=⟨b,o,none⟩) hb,λb o hb=>by have:=h.block b hb;simp[World.frozen?,this],h.size⟩
theorem Tryz.wrongJoints_any (an:Option Addr)(cn:Nat)(af:Option Addr)(cf d:Nat)(ns:List Nd)(fs:List Fl)(w:World)(hH:Nt.Has w w.heap.size d an af ns fs)(hn:ns.length<=24)(hto:∀f,f∈fs->0<=f.to/\f.to<ns.length):
  Calls Tryz.prog 102 #[.agg #[.slice an ns.length cn,.slice af fs.length cf]] w λe w'=>Nt.Gives (Nt.wrong3 ns fs) w e w':=by
 obtain⟨i0,hi0,hz0,hz1,hz2⟩:=info_parts Tryz.infoIntR;obtain⟨w1,hw1⟩:=pE (w.alloc (.cells #[.slice an ns.length cn,.slice af fs.length cf] 30));have A1:=pB hw1
 have C0:w1.heap[w.heap.size]? =some (.cells #[.slice an ns.length cn,.slice af fs.length cf] 30 (0,0)):=by rw[<-hw1];exact heap_alloc_new w _
 have hc:=Tryz.count_any an ns.length cn af cf d fs w1 ((hH.fls.below A1).wider A1.size) hH.flen hn;obtain⟨n,hnn⟩:=pE (ns.length);obtain⟨m,hmm⟩:=pE (fs.length);obtain⟨l,hl⟩:=pE ((List.range ns.length).filter (λi=> !Nt.jointB ns fs i));obtain⟨s,hs⟩:=pE (Nt.firstI ns 1);obtain⟨en,hen⟩:=pE (Nt.firstI ns 2)
 have HP:Hid (∀(w2:World) (cs:Array Value) (bj bs be:Nat),Below w1.heap.size w1 w2->Nt.Joints cs fs n->w2.heap[bj]? =some (.cells cs 167 (0,0))->bs<w2.heap.size->be<w2.heap.size->w2.cell? ⟨bs,0,none⟩=some (.int .i64 s)->w2.cell? ⟨be,0,none⟩=some (.int .i64 en)->
   Calls Tryz.prog 125 #[.int .i64 n,.func (.func 134) #[] #[.pointer (some ⟨w.heap.size,0,none⟩),.pointer (some ⟨bs,0,none⟩),.pointer (some ⟨be,0,none⟩),.pointer (some ⟨bj,0,none⟩)]] w2 λe w'=>∃v,e=.returned v/\w'.ownsRow w2.heap.size 3 1 v l.length (Rk.nums l)/\Below w2.heap.size w2 w'):=λw2 cs bj bs be hb2 hJ hbj hbs hbe hcs hce=>by
  have hb1:Below w.heap.size w w2:=A1.trans (hb2.mono A1.size)
  have h:=Tryz.places_any (λi=> !Nt.jointB ns fs i) 134 #[.pointer (some ⟨w.heap.size,0,none⟩),.pointer (some ⟨bs,0,none⟩),.pointer (some ⟨be,0,none⟩),.pointer (some ⟨bj,0,none⟩)] Nt.enters_joints ns.length w2 (λW k hk hb=>by
   have hbw:Below w.heap.size w W:=hb1.trans (hb.mono hb1.size)
   exact Tryz.joints1_any k w.heap.size bj bs be an cn af cf w.heap.size d ns fs cs W (hH.below hbw) hbw.size hk hn hto (by rw[hnn];exact hJ)
    ⟨by rw[(hb2.trans (hb.mono hb2.size)).block _ (Nt.lt_of C0)];exact C0,by rw[hb.block _ (Nt.lt_of hbj)];exact hbj⟩ (by rw[hb.cell (p:=⟨bs,0,none⟩) hbs,hs];exact hcs) (by rw[hb.cell (p:=⟨be,0,none⟩) hbe,hen];exact hce)) (by omega)
  rw[hl,hnn]at h;exact h
 have HBX:Hid (∀w2,Below w1.heap.size w1 w2->w2.cell? ⟨w.heap.size,0,none⟩=some (.slice an n cn)/\w2.cell? ⟨w.heap.size,1,none⟩=some (.slice af m cf)):=λw2 hb=>by
  have:=Nt.box2 ((hb.block _ (Nt.lt_of C0)).trans C0);rw[hnn,hmm]at this;exact this
 have HST:Hid (∀W,Below w1.heap.size w1 W->Calls Tryz.prog 132 #[.agg #[.slice an n cn,.slice af m cf]] W λe w'=>e=.returned (.int .i64 s)/\Hid (Below W.heap.size W w')):=λW hb=>by
  have hbw:Below w.heap.size w W:=A1.trans (hb.mono A1.size);have h:=Tryz.nStart_any an cn d af m cf ns W ((hH.nds.below hbw).wider hbw.size) hH.nlen;rw[hs,hnn]at h;exact h
 have HEN:Hid (∀W,Below w1.heap.size w1 W->Calls Tryz.prog 133 #[.agg #[.slice an n cn,.slice af m cf]] W λe w'=>e=.returned (.int .i64 en)/\Hid (Below W.heap.size W w')):=λW hb=>by
  have hbw:Below w.heap.size w W:=A1.trans (hb.mono A1.size);have h:=Tryz.nEnd_any an cn d af m cf ns W ((hH.nds.below hbw).wider hbw.size) hH.nlen;rw[hen,hnn]at h;exact h
 obtain⟨l3,hl3⟩:=pE (Nt.wrong3 ns fs);have HL3:Hid (l3=l++if(decide (s<0)||decide (en<0))=true then [n]else []):=by show _=_;rw[<-hl3,Nt.wrong3,hl,Nt.lostB,hs,hen,hnn]
 have HLL:Hid (l.length<=24):=by
  show _<=_;rw[<-hl];have:=List.length_filter_le (λi=> !Nt.jointB ns fs i) (List.range ns.length);rw[List.length_range]at this;omega
 rw[hnn,hmm]at hc hw1;rw[hl3,hnn,hmm];have HC:Hid _:=hc;have H1:Hid (w.alloc (.cells #[.slice an n cn,.slice af m cf] 30)=w1):=hw1;have HA:Hid (Below w.heap.size w w1):=A1;have HWS:Hid (w.heap.size<w1.heap.size):=Nt.lt_of C0;have hn24:n<=24:=by omega
 clear hc hH hn hto hnn hmm hl hl3 hs hen hw1 A1 C0
 go_enter Tryz.func102,Tryz.ntmps102
 go_wp2_with fail
 rw[H1.out];refine Calls.mono HC.out ?_;rintro e W1 ⟨cs,rfl,hJ,hb⟩;have B1:Hid (Below w1.heap.size w1 W1):=hb;have HJ:Hid (Nt.Joints cs fs n):=hJ;have hi:(Tryz.prog.info? 167).map (·.size)=some cs.size:=by rw[hJ.1];kernel_rfl
 have hi1:Tryz.zeroCells167.size=cs.size:=by rw[hJ.1];kernel_rfl
 obtain⟨w2,hw2⟩:=pE ((W1.alloc (.cells Tryz.zeroCells167 167)).setRow W1.heap.size cs);have HN:Hid _:=Nt.arr_new W1 w2 cs hw2;have HW2:Hid ((W1.alloc (.cells Tryz.zeroCells167 167)).setRow W1.heap.size cs=w2):=hw2;have B2:Hid (Below w1.heap.size w1 w2):=B1.out.trans (HN.out.2.1.mono B1.out.size);have HZ:Hid _:=heap_alloc_new W1 (.cells Tryz.zeroCells167 167);have BR:Hid (Below w2.heap.size w2 w2):=Below.refl _ _;have CF:Hid (∀W,Below w2.heap.size w2 W->W.cell? ⟨w.heap.size,0,none⟩=some (.slice an n cn)/\W.cell? ⟨w.heap.size,1,none⟩=some (.slice af m cf)):=λW hb=>HBX.out W (B2.out.trans (hb.mono B2.out.size));have CS:Hid (∀W,Below w2.heap.size w2 W->Calls Tryz.prog 132 #[.agg #[.slice an n cn,.slice af m cf]] W λe w'=>e=.returned (.int .i64 s)/\Hid (Below w2.heap.size w2 w')/\Nt.Old W w'):=λW hb=>(HST.out W (B2.out.trans (hb.mono B2.out.size))).mono λe w' h=>⟨h.1,hb.trans (h.2.out.mono hb.size),Nt.Old.of h.2.out⟩;have CE:Hid (∀W,Below w2.heap.size w2 W->Calls Tryz.prog 133 #[.agg #[.slice an n cn,.slice af m cf]] W λe w'=>e=.returned (.int .i64 en)/\Hid (Below w2.heap.size w2 w')/\Nt.Old W w'):=λW hb=>(HEN.out W (B2.out.trans (hb.mono B2.out.size))).mono λe w' h=>⟨h.1,hb.trans (h.2.out.mono hb.size),Nt.Old.of h.2.out⟩;clear hb hJ HC hw2 HST HEN
 go_upto_region 2 with(refine wpList_store_row rfl 167 _ _ rfl W1.heap.size cs rfl rfl 167 Tryz.zeroCells167 (by exact HZ.out) hi hi1 HJ.out.2.1 ?_;rw[HW2.out])
 simp only[Act.put]
 go_cut [4,5] (λs4 s5 wx=>∃bs be:Nat,s4=.pointer (some ⟨bs,0,none⟩)/\s5=.pointer (some ⟨be,0,none⟩)/\Hid (Below w2.heap.size w2 wx/\bs<wx.heap.size/\be<wx.heap.size/\wx.cell? ⟨bs,0,none⟩=some (.int .i64 s)/\wx.cell? ⟨be,0,none⟩=some (.int .i64 en)))
 case first=>
  have hws:w.heap.size<w2.heap.size:=Nat.lt_of_lt_of_le HWS.out B2.out.size;clear HP HBX HJ HN HZ HW2 B1 B2 HLL HL3 HA HWS hi hi1 hi0 hz0 hz1 hz2 hn24 H1
  go_region_held3 (λW=>W.cell? ⟨w.heap.size,0,none⟩=some (.slice an n cn)/\W.cell? ⟨w.heap.size,1,none⟩=some (.slice af m cf))
   (first|(refine CF.out _ ?_;(repeat (first|exact B4.out|exact B3.out|exact BR.out|apply Nt.al|apply Nt.dr|(refine Nt.st ?_ _ _ _ (by first|omega|(simp;omega)|(have:=B3.out.size;omega)))))))
   (first
   |(go_simp;go_at_call 132;refine Calls.mono (CS.out _ ?_) ?_;(repeat (first|exact B4.out|exact B3.out|exact BR.out|apply Nt.al|apply Nt.dr|(refine Nt.sr ?_ _ _ (by first|omega|(simp;omega)|(simp)))));rintro e W3 ⟨rfl,B3,z3,y3,s3⟩;have g3:=(CF.out W3 B3.out).1;have g4:=(CF.out W3 B3.out).2;have gq3:w.heap.size<W3.heap.size:=Nat.lt_of_lt_of_le hws B3.out.size;have q3:∀b,b<_->b<W3.heap.size:=λb hb=>Nat.lt_of_lt_of_le hb s3;(try simp at s3);(first|(have q3a:w2.heap.size<W3.heap.size:=by omega)|skip);(first|(have q3b:w2.heap.size+1<W3.heap.size:=by omega)|skip);clear s3)
   |(go_simp;go_at_call 133;refine Calls.mono (CE.out _ ?_) ?_;(repeat (first|exact B4.out|exact B3.out|exact BR.out|apply Nt.al|apply Nt.dr|(refine Nt.sr ?_ _ _ (by first|omega|(simp;omega)|(simp)))));rintro e W4 ⟨rfl,B4,z4,y4,s4⟩;have g5:=(CF.out W4 B4.out).1;have g6:=(CF.out W4 B4.out).2;have gq4:w.heap.size<W4.heap.size:=Nat.lt_of_lt_of_le hws B4.out.size;have q4:∀b,b<_->b<W4.heap.size:=λb hb=>Nat.lt_of_lt_of_le hb s4;(try simp at s4);(first|(have q4a:w2.heap.size<W4.heap.size:=by omega)|skip);(first|(have q4b:w2.heap.size+1<W4.heap.size:=by omega)|skip);(first|(have q4c:W3.heap.size<W4.heap.size:=by omega)|skip);(first|(have q4d:W3.heap.size+1<W4.heap.size:=by omega)|skip);clear s4))
  all_goals
   go_wp2_with fail
   go_meet;refine⟨_,_,rfl,rfl, ?_, ?_, ?_, ?_, ?_⟩
   ·(repeat (first|exact B4.out|exact B3.out|exact BR.out|apply Nt.al|apply Nt.dr|(refine Nt.st ?_ _ _ _ (by first|omega|(simp;omega)|(have:=B3.out.size;omega)))))
   ·(first|assumption|omega|(simp;done)|(simp;omega)|(simp[*];done))
   ·(first|assumption|omega|(simp;done)|(simp;omega)|(simp[*];done))
   ·(repeat (first|assumption|exact Nt.cn _ _ _ _ (by first|omega|(simp;done)|(simp;omega))|(refine Nt.co _ (by first|omega|(simp;done)|(simp;omega)) ?_)|(refine Nt.ss (.int .i64 0) ?_)|(refine Nt.so (by first|omega|(simp;done)|(simp;omega)) ?_)|(refine(z4 _ _ (by first|omega|(simp;done)|(simp;omega))).trans ?_)|(refine(z3 _ _ (by first|omega|(simp;done)|(simp;omega))).trans ?_)))
   (repeat (first|assumption|exact Nt.cn _ _ _ _ (by first|omega|(simp;done)|(simp;omega))|(refine Nt.co _ (by first|omega|(simp;done)|(simp;omega)) ?_)|(refine Nt.ss (.int .i64 0) ?_)|(refine Nt.so (by first|omega|(simp;done)|(simp;omega)) ?_)|(refine(z4 _ _ (by first|omega|(simp;done)|(simp;omega))).trans ?_)|(refine(z3 _ _ (by first|omega|(simp;done)|(simp;omega))).trans ?_)))
 case rest=>
 rename World=>wc;obtain⟨bs,be,rfl,rfl,HG⟩:=hcut;have BC:Hid (Below w1.heap.size w1 wc):=B2.out.trans (HG.out.1.mono B2.out.size);obtain⟨p0,p1⟩:=HBX.out wc BC.out
 have HK:Hid (wc.heap[W1.heap.size]? =some (.cells cs 167 (0,0))):=by
  show _=_;rw[HG.out.1.block _ (Nt.lt_of HN.out.1)];exact HN.out.1
 clear CS CE CF BR
 go_wp2_with fail
 refine Calls.mono (HP.out wc cs W1.heap.size bs be BC.out HJ.out HK.out HG.out.2.1 HG.out.2.2.1 HG.out.2.2.2.1 HG.out.2.2.2.2) ?_;rintro e W5 ⟨v,rfl,how,hb5⟩;have B5:Hid (Below w1.heap.size w1 W5):=BC.out.trans (hb5.mono BC.out.size);have c1:W5.cell? ⟨bs,0,none⟩=some (.int .i64 s):=by rw[hb5.cell (p:=⟨bs,0,none⟩) HG.out.2.1];exact HG.out.2.2.2.1
 have c2:W5.cell? ⟨be,0,none⟩=some (.int .i64 en):=by rw[hb5.cell (p:=⟨be,0,none⟩) HG.out.2.2.1];exact HG.out.2.2.2.2
 obtain⟨x0,x1⟩:=HBX.out W5 B5.out;have how1:W5.ownsRow w.heap.size 3 1 v l.length (Rk.nums l):=Nt.own_lower how (Nat.le_trans HA.out.size BC.out.size);obtain⟨av,cv,rfl⟩:=Rk.own_shape how1;have BW:Hid (Below w.heap.size w W5):=HA.out.trans (B5.out.mono HA.out.size);have hsz5:w.heap.size<=W5.heap.size:=BW.out.size;have hr24:l.length<=24:=HLL.out;clear hb5 HP how p0 p1
 by_cases hlost:s<0∨en<0
 ·have HL4:Hid (l3=l++ [n]):=by
   show _=_;rw[HL3.out,if_pos (by simp;exact hlost)]
  obtain h1|⟨h1,h2⟩:decide (s<0)=true∨(decide (s<0)=false/\decide (en<0)=true):=by simp;omega
  all_goals
   clear hlost HL3
   go_wp2_with (at_builtin;refine wpList_append_own _ rfl _ _ 111 rfl w.heap.size 3 i0 (.int .i64 0) 1 8 Tryz.underlying111 hi0 hz0 hz1 hz2 rfl (by decide) _ _ _ rfl (how1.alloc _) ⟨W5.heap.size,0,none⟩ 1 1 [.int .i64 n] rfl rfl (Rk.one_cell W5 n 3) (Rk.one_one n) ?c3 ?c4 ?c5 ?_)
   case c3=>unfold maxLen;omega
   case c4=>omega
   case c5=>simp;omega
   intro v' W6 own2 g2 _;obtain⟨a2,c2',rfl⟩:=Rk.own_shape own2;have B6:Hid (W6.ownsRow w.heap.size 3 1 (.slice a2 (l.length+1) c2') (l++ [n]).length (Rk.nums (l++ [n]))/\Below w.heap.size w W6):=⟨by rw[Rk.nums_snoc,List.length_append];exact own2,Rk.below_grown (BW.out.alloc hsz5 _) (by simp;omega) (how1.alloc _) g2⟩;clear own2 g2 how1;go_wp2;go_ret;rw[HL4.out];exact⟨_,rfl,B6.out.1,B6.out.2⟩
 have HL4:Hid (l3=l):=by
  show _=_;rw[HL3.out,if_neg (by simp;omega),List.append_nil]
 have h1:decide (s<0)=false:=decide_eq_false (by omega);have h2:decide (en<0)=false:=decide_eq_false (by omega);have B6:Hid (W5.ownsRow w.heap.size 3 1 (.slice av l.length cv) l.length (Rk.nums l)):=how1;clear hlost HL3 how1;go_wp2;go_ret;rw[HL4.out];exact⟨_,rfl,B6.out,BW.out⟩
end Go.Proofs
