import Derived.Test.YtenaelpdnccgnaaGreatDoorRNtThreeX
import Derived.Test.YtenaelpdnccgnaaGreatDoorRNtThreeR
import Derived.Test.YtenaelpdnccgnaaGreatDoorRAllNtTwoB
set_option maxRecDepth 100000
set_option maxHeartbeats 32000000
namespace Go.Proofs
open Go.RowKit Go.Shelf
theorem Tryz.jointRight_any (i a b el:Nat)(an:Option Addr)(cn:Nat)(af:Option Addr)(cf d:Nat)(ns:List Nd)(fs:List Fl)(w:World)(hH:Nt.Has w w.heap.size d an af ns fs)(hto:∀f,f∈fs->0<=f.to/\f.to<ns.length)(hi:i<ns.length):
  Calls Tryz.prog 135 #[.agg #[.slice an ns.length cn,.slice af fs.length cf],.int .i64 i,.agg #[.int .i64 a,.int .i64 b,.int .i64 el]] w λe w'=>e=.returned (.bool (Nt.joinB (Nt.kindAt ns i) a b el (Nt.othersN ns fs i)))/\Below w.heap.size w w':=by
 have hL:∀W,Below w.heap.size w W->Calls Tryz.prog 153 #[.agg #[.slice an ns.length cn,.slice af fs.length cf],.int .i64 i] W λe w'=>e=.returned (.bool (decide (Nt.othersN ns fs i=0)))/\Below W.heap.size W w':=λW hb=>by
  rw[Nt.others_zero];exact Tryz.leads_any i an cn af cf d ns fs W ((hH.below hb).wider hb.size) hto
 obtain⟨g,o2,u,rfl,hg,e3,_⟩:=hH.nds i hi;rw[<-Nt.kindAt_get ns i hi]at e3;have hn:=hH.nlen
 generalize Nt.kindAt ns i=k at*
 by_cases k1:k=1
 ·subst k1;exact Tryz.jointRight_start i a b el _ g o2 _ cn af _ cf w hg hi hn e3 hL
 by_cases k2:k=2
 ·subst k2;exact Tryz.jointRight_end i a b el _ g o2 _ cn af _ cf w hg hi hn e3 hL
 by_cases k5:k=5
 ·subst k5;exact Tryz.jointRight_xor i a b el _ g o2 _ cn af _ cf w hg hi hn e3 hL
 by_cases k6:k=6
 ·subst k6;exact Tryz.jointRight_and i a b el _ g o2 _ cn af _ cf w hg hi hn e3 hL
 by_cases k7:k=7
 ·subst k7;exact Tryz.jointRight_event i a b el _ g o2 _ cn af _ cf w hg hi hn e3 hL
 exact Tryz.jointRight_other k i a b el _ g o2 _ cn af _ cf w hg hi hn e3 (by simpa using k1) (by simpa using k2) (by simpa using k5) (by simpa using k6) (by simpa using k7) hL
theorem Nt.enters_joints:∀args w,(callFunc 134 args).run Tryz.prog w=.ok (.enter 134 args) w:=enters_of Tryz.func134 (by kernel_rfl) rfl
theorem Tryz.joints1_any (i bn bj bs be:Nat)(an:Option Addr)(cn:Nat)(af:Option Addr)(cf B d:Nat)(ns:List Nd)(fs:List Fl)(cs:Array Value)(w:World)(hH:Nt.Has w B d an af ns fs)(hB:B<=w.heap.size)(hi:i<ns.length)(hn:ns.length<=24)(hto:∀f,f∈fs->0<=f.to/\f.to<ns.length)
  (hJ:Nt.Joints cs fs ns.length) (hC:Nt.Fc bn bj an cn af cf ns fs cs w) (hS:w.cell? ⟨bs,0,none⟩=some (.int .i64 (Nt.firstI ns 1))) (hE:w.cell? ⟨be,0,none⟩=some (.int .i64 (Nt.firstI ns 2))):
  Calls Tryz.prog 134 #[.int .i64 i,.pointer (some ⟨bn,0,none⟩),.pointer (some ⟨bs,0,none⟩),.pointer (some ⟨be,0,none⟩),.pointer (some ⟨bj,0,none⟩)] w λe w'=>e=.returned (.bool (!Nt.jointB ns fs i))/\Below w.heap.size w w':=by
 obtain⟨gn,on,u,rfl,hg,hkc,-⟩:=hH.nds i hi;rw[<-Nt.kindAt_get ns i hi]at hkc;obtain⟨p0,p1⟩:=Nt.box2 hC.box;obtain⟨j0,j1,j2⟩:=hJ.2.2 i hi;have q0:w.cell? ⟨bj,i*3,none⟩=some (.int .i64 (Nt.insN fs i)):=by have:=hC.jts;simp[World.cell?,this,j0]
 have q1:w.cell? ⟨bj,i*3+1,none⟩=some (.int .i64 (Nt.outsN fs i)):=by have:=hC.jts;simp[World.cell?,this,j1]
 have q2:w.cell? ⟨bj,i*3+2,none⟩=some (.int .i64 (Nt.elsesN fs i)):=by have:=hC.jts;simp[World.cell?,this,j2]
 have hcj:=λW (hb:Below w.heap.size w W)=>(Tryz.jointRight_any i (Nt.insN fs i) (Nt.outsN fs i) (Nt.elsesN fs i) (some ⟨gn,on,none⟩) cn af cf d ns fs W ((hH.below (hb.mono hB)).wider (Nat.le_trans hB hb.size)) hto hi);have hjb:Nt.jointB ns fs i=(Nt.joinB (Nt.kindAt ns i) (Nt.insN fs i) (Nt.outsN fs i) (Nt.elsesN fs i) (Nt.othersN ns fs i)&& !(decide (Nt.kindAt ns i=1)&& !decide ((i:Int)=Nt.firstI ns 1))&& !(decide (Nt.kindAt ns i=2)&& !decide ((i:Int)=Nt.firstI ns 2))):=rfl;obtain⟨tb,htb⟩:=pE (Nt.joinB (Nt.kindAt ns i) (Nt.insN fs i) (Nt.outsN fs i) (Nt.elsesN fs i) (Nt.othersN ns fs i));rw[htb]at hcj hjb;obtain⟨k,hk⟩:=pE (Nt.kindAt ns i);obtain⟨s,hs⟩:=pE (Nt.firstI ns 1);obtain⟨e,he⟩:=pE (Nt.firstI ns 2);obtain⟨ja,hja⟩:=pE (Nt.insN fs i);obtain⟨jb,hjbb⟩:=pE (Nt.outsN fs i);obtain⟨je,hje⟩:=pE (Nt.elsesN fs i);obtain⟨n,hnn⟩:=pE (ns.length);obtain⟨m,hmm⟩:=pE (fs.length);rw[hja,hjbb,hje,hnn,hmm]at hcj;rw[hja]at q0;rw[hjbb]at q1;rw[hje]at q2;rw[hnn]at p0;rw[hmm]at p1;rw[hk]at hkc;rw[hs]at hS;rw[he]at hE;rw[hk,hs,he]at hjb;rw[hjb];have hi':(i:Int)<n:=by omega
 have hi24:(i:Int)<24:=by omega
 have hi0:(0:Int)<=i:=by omega
 have CF:Hid (∀W,Below w.heap.size w W->W.cell? ⟨bn,0,none⟩=some (.slice (some ⟨gn,on,none⟩) n cn)/\W.cell? ⟨bn,1,none⟩=some (.slice af m cf)/\W.cell? ⟨bj,i*3,none⟩=some (.int .i64 ja)/\W.cell? ⟨bj,i*3+1,none⟩=some (.int .i64 jb)/\W.cell? ⟨bj,i*3+2,none⟩=some (.int .i64 je)):=λW hb=>by
  have hbn:=Nt.lt_of hC.box;have hbj:=Nt.lt_of hC.jts;exact⟨by rw[hb.cell (p:=⟨bn,0,none⟩) hbn];exact p0,by rw[hb.cell (p:=⟨bn,1,none⟩) hbn];exact p1,by rw[hb.cell (p:=⟨bj,i*3,none⟩) hbj];exact q0,by rw[hb.cell (p:=⟨bj,i*3+1,none⟩) hbj];exact q1,by rw[hb.cell (p:=⟨bj,i*3+2,none⟩) hbj];exact q2⟩
 have CJ:Hid (∀W,Below w.heap.size w W->Calls Tryz.prog 135 #[.agg #[.slice (some ⟨gn,on,none⟩) n cn,.slice af m cf],.int .i64 i,.agg #[.int .i64 ja,.int .i64 jb,.int .i64 je]] W λe w'=>e=.returned (.bool tb)/\Hid (Below w.heap.size w w')):=λW hb=>(hcj W hb).mono λe w' h=>⟨h.1,hb.trans (h.2.mono hb.size)⟩;have BR:Hid (Below w.heap.size w w):=Below.refl _ _;clear hH hB hi hn hto hJ hC hcj hjb htb hk hs he hja hjbb hje hnn hmm hg j0 j1 j2
 by_cases k1:k=1
 ·subst k1
  by_cases hsi:(i:Int)=s
  ·have e1:((i:Int) !=s)=false:=by simpa using hsi
   have HD:Hid ((!(tb&& !(decide ((1:Int)=1)&& !decide ((i:Int)=s))&& !(decide ((1:Int)=2)&& !decide ((i:Int)=e))))= !tb):=by show _=_;rw[decide_eq_true hsi];simp
   rw[HD.out];clear hsi
   go_enter Tryz.func134,Tryz.ntmps134
   go_upto_region 2 with fail
   go_region_held3 (λW=>W.cell? ⟨bn,0,none⟩=some (.slice (some ⟨gn,on,none⟩) n cn)/\W.cell? ⟨bn,1,none⟩=some (.slice af m cf)/\W.cell? ⟨bj,i*3,none⟩=some (.int .i64 ja)/\W.cell? ⟨bj,i*3+1,none⟩=some (.int .i64 jb)/\W.cell? ⟨bj,i*3+2,none⟩=some (.int .i64 je))
    (first|exact CF.out _ B3.out|exact CF.out _ BR.out.drew|exact CF.out _ BR.out)
    (first
    |(go_simp;go_at_call 135;refine Calls.mono (CJ.out _ ?_) ?_;(first|exact BR.out|exact BR.out.drew|exact Tk.below_drewN BR.out _);rintro e W3 ⟨rfl,B3⟩))
   all_goals
    clear CF CJ BR;go_simp;go_wp2;go_ret;exact⟨Tk.ret_bool rfl,B3.out⟩
  have e1:((i:Int) !=s)=true:=by simpa using hsi
  have HD:Hid ((!(tb&& !(decide ((1:Int)=1)&& !decide ((i:Int)=s))&& !(decide ((1:Int)=2)&& !decide ((i:Int)=e))))=true):=by show _=_;rw[decide_eq_false hsi];simp
  rw[HD.out];have BD:Hid (∀j,Below w.heap.size w (w.drewN j)):=λj=>Tk.below_drewN (Below.refl _ w) j;clear hsi CJ CF
  go_enter Tryz.func134,Tryz.ntmps134
  go_upto_region 2 with fail
  go_quiet (fail)
  go_wp2;go_ret;exact⟨rfl,BD.out _⟩
 have f1:(k==1)=false:=by simpa using k1
 by_cases k2:k=2
 rotate_left
 ·have f2:(k==2)=false:=by simpa using k2
  have HD:Hid ((!(tb&& !(decide (k=1)&& !decide ((i:Int)=s))&& !(decide (k=2)&& !decide ((i:Int)=e))))= !tb):=by show _=_;rw[decide_eq_false k1,decide_eq_false k2];simp
  rw[HD.out];clear k1 k2
  go_enter Tryz.func134,Tryz.ntmps134
  go_upto_region 2 with fail
  go_region_held3 (λW=>W.cell? ⟨bn,0,none⟩=some (.slice (some ⟨gn,on,none⟩) n cn)/\W.cell? ⟨bn,1,none⟩=some (.slice af m cf)/\W.cell? ⟨bj,i*3,none⟩=some (.int .i64 ja)/\W.cell? ⟨bj,i*3+1,none⟩=some (.int .i64 jb)/\W.cell? ⟨bj,i*3+2,none⟩=some (.int .i64 je))
   (first|exact CF.out _ B3.out|exact CF.out _ BR.out.drew|exact CF.out _ BR.out)
   (first
   |(go_simp;go_at_call 135;refine Calls.mono (CJ.out _ ?_) ?_;(first|exact BR.out|exact BR.out.drew|exact Tk.below_drewN BR.out _);rintro e W3 ⟨rfl,B3⟩))
  all_goals
   clear CF CJ BR;go_simp;go_wp2;go_ret;exact⟨Tk.ret_bool rfl,B3.out⟩
 subst k2
 by_cases hsi:(i:Int)=e
 ·have e1:((i:Int) !=e)=false:=by simpa using hsi
  have HD:Hid ((!(tb&& !(decide ((2:Int)=1)&& !decide ((i:Int)=s))&& !(decide ((2:Int)=2)&& !decide ((i:Int)=e))))= !tb):=by show _=_;rw[decide_eq_true hsi];simp
  rw[HD.out];clear hsi k1
  go_enter Tryz.func134,Tryz.ntmps134
  go_upto_region 2 with fail
  go_region_held3 (λW=>W.cell? ⟨bn,0,none⟩=some (.slice (some ⟨gn,on,none⟩) n cn)/\W.cell? ⟨bn,1,none⟩=some (.slice af m cf)/\W.cell? ⟨bj,i*3,none⟩=some (.int .i64 ja)/\W.cell? ⟨bj,i*3+1,none⟩=some (.int .i64 jb)/\W.cell? ⟨bj,i*3+2,none⟩=some (.int .i64 je))
   (first|exact CF.out _ B3.out|exact CF.out _ BR.out.drew|exact CF.out _ BR.out)
   (first
   |(go_simp;go_at_call 135;refine Calls.mono (CJ.out _ ?_) ?_;(first|exact BR.out|exact BR.out.drew|exact Tk.below_drewN BR.out _);rintro e W3 ⟨rfl,B3⟩))
  all_goals
   clear CF CJ BR;go_simp;go_wp2;go_ret;exact⟨Tk.ret_bool rfl,B3.out⟩
 have e1:((i:Int) !=e)=true:=by simpa using hsi
 have HD:Hid ((!(tb&& !(decide ((2:Int)=1)&& !decide ((i:Int)=s))&& !(decide ((2:Int)=2)&& !decide ((i:Int)=e))))=true):=by show _=_;rw[decide_eq_false hsi];simp
 rw[HD.out];have BD:Hid (∀j,Below w.heap.size w (w.drewN j)):=λj=>Tk.below_drewN (Below.refl _ w) j;clear hsi CJ CF k1
 go_enter Tryz.func134,Tryz.ntmps134
 go_upto_region 2 with fail
 go_quiet (fail)
 go_wp2;go_ret;exact⟨rfl,BD.out _⟩
end Go.Proofs
