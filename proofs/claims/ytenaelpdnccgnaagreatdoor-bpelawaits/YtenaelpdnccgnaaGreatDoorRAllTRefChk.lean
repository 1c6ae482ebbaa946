import Derived.Test.YtenaelpdnccgnaaGreatDoorRAllTChk
import Derived.Test.YtenaelpdnccgnaaGreatDoorRRkModel
import Derived.Lib.Hide
set_option maxRecDepth 100000
set_option maxHeartbeats 32000000
namespace Go.Proofs
open Go.RowKit
def Tm.Bad1 (op n:Int)(len:Nat):Prop:=op<1∨14<op∨len≠Tm.kidsOf op∨n<0
theorem Tryz.isZero_any (T:Tm)(a:Option Addr)(cap:Nat)(w:World):
  Calls Tryz.prog 151 #[.agg #[.int .i64 T.op,.int .i64 T.num,.slice a T.ks.length cap]] w λe w'=>e=.returned (.bool (Nt.zeroB T))/\Below w.heap.size w w':=by
 obtain⟨o,ho⟩:=pE (T.op);obtain⟨m,hm⟩:=pE (T.num);obtain⟨n,hn⟩:=pE (T.ks.length);obtain⟨b,hb⟩:=pE (Nt.zeroB T);rw[hb,ho,hm,hn];have B0:Hid (Below w.heap.size w (w.alloc (.cells #[.int .i64 o,.int .i64 m,.slice a n cap] 24))):=(Below.refl _ w).alloc (Nat.le_refl _) _;have HB:Hid ((decide (o=0)&&decide (m=0)&&decide (n=0))=b):=by show _=_;rw[<-hb,Nt.zeroB,ho,hm,hn]
 clear hb ho hm hn
 by_cases h0:o=0<;>by_cases h1:m=0<;>by_cases h2:n=0
 all_goals
  have e0:(o==0)=decide (o=0):=rfl;have e1:(m==0)=decide (m=0):=rfl;have e2:((n:Int)==0)=decide (n=0):=by rw[show((n:Int)==0)=decide ((n:Int)=0)from rfl];exact decide_eq_decide.2 (by omega)
  simp only[h0,h1,h2,decide_true,decide_false]at e0 e1 e2 HB
  try subst h0
  try subst h1
  try subst h2
  go_enter Tryz.func151,Tryz.ntmps151
  go_wp2;go_ret;exact⟨Tk.ret_bool (by rw[<-HB.out];first|rfl|simp),B0.out⟩
theorem Tryz.isNode_any (i:Int)(an:Option Addr)(n cn:Nat)(af:Option Addr)(m cf:Nat)(w:World):
  Calls Tryz.prog 130 #[.agg #[.slice an n cn,.slice af m cf],.int .i64 i] w λe w'=>e=.returned (.bool (Nt.isNodeB n i))/\Below w.heap.size w w':=by
 have B0:Hid (Below w.heap.size w (w.alloc (.cells #[.slice an n cn,.slice af m cf] 30))):=(Below.refl _ w).alloc (Nat.le_refl _) _
 by_cases h0:0<=i<;>by_cases h1:i<n
 all_goals
  have e0:decide (0<=i)=decide (0<=i):=rfl;have e1:decide (i<(n:Int))=decide (i<(n:Int)):=rfl;have HB:Hid (Nt.isNodeB n i=(decide (0<=i)&&decide (i<(n:Int)))):=rfl
  conv at e0=>rhs;simp only[h0,decide_true,decide_false]
  conv at e1=>rhs;simp only[h1,decide_true,decide_false]
  rw[e0,e1]at HB;clear h0 h1
  go_enter Tryz.func130,Tryz.ntmps130
  go_wp2;go_ret;exact⟨Tk.ret_bool (by rw[HB.out];rfl),B0.out⟩
theorem Tryz.isOf_any (k:Int)(d:Nat)(T:Tm)(v:Value)(w:World)(hT:Tm.Lies w w.heap.size d v T)(hO:Tk.Ops w)(hsz:T.size<=2147483647):
  Calls Tryz.prog 150 #[.int .i64 k,.agg #[.int .i64 T.op,.int .i64 T.num,v]] w λe w'=>e=.returned (.bool (Nt.ofB T k))/\Below w.heap.size w w':=by
 obtain⟨a,cap,rfl⟩:=hT.shape;have A0:Below w.heap.size w (w.alloc (.cells #[.int .i64 T.op,.int .i64 T.num,.slice a T.ks.length cap] 24)):=(Below.refl _ w).alloc (Nat.le_refl _) _;have hc:=Tryz.check_any d T (.slice a T.ks.length cap) _ ((hT.below A0).wider A0.size) (hO.below A0 hO.lt) hsz;obtain⟨o,ho⟩:=pE (T.op);obtain⟨m,hm⟩:=pE (T.num);obtain⟨n,hn⟩:=pE (T.ks.length);obtain⟨b,hb⟩:=pE (Nt.ofB T k);obtain⟨q,hq⟩:=pE (T.checkR);rw[ho,hm,hn,hq]at hc;rw[ho,hm,hn]at A0;rw[hb,ho,hm,hn];obtain⟨q0,q1⟩:=q;have HC:Hid _:=hc;have HA:Hid _:=A0;have HB:Hid ((decide (q1=0)&&decide (q0=k))=b):=by show _=_;rw[<-hb,Nt.ofB,hq]
 clear hc A0 hT hO hsz ho hm hn hb hq
 by_cases h0:q1=0<;>by_cases h1:q0=k
 all_goals
  have e0:(q1==0)=decide (q1=0):=rfl;have e1:(q0==k)=decide (q0=k):=rfl;simp only[h0,h1,decide_true,decide_false]at e0 e1 HB
  try subst h0
  try subst h1
  go_enter Tryz.func150,Tryz.ntmps150
  go_wp2_with fail
  refine Calls.mono HC.out ?_;rintro e W1 ⟨rfl,hb1⟩;have B1:Hid (Below w.heap.size w W1):=HA.out.trans (hb1.mono HA.out.size);clear hb1 HC;go_wp2;go_ret;exact⟨Tk.ret_bool (by rw[<-HB.out];first|rfl|simp),B1.out⟩
end Go.Proofs
namespace Go.Proofs
end Go.Proofs
