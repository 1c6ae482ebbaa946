import Derived.Test.YtenaelpdnccgnaaGreatDoorQNtCount
set_option maxRecDepth 100000
set_option maxHeartbeats 32000000
namespace Go.Proofs
open Go.RowKit Go.Shelf
theorem Nt.others_zero (ns:List Nd)(fs:List Fl)(i:Int):decide (Nt.othersN ns fs i=0)= !fs.any (Nt.otherB ns i):=by
 rw[Bool.eq_iff_iff,decide_eq_true_eq,Bool.not_eq_true',Nt.othersN,List.countP_eq_zero,List.any_eq_false];rfl
theorem Tryz.jointRight_xor (i:Nat)(a b el ot:Nat)(g o2 n cn:Nat)(af:Option Addr)(m cf:Nat)(w:World)(hg:g<w.heap.size)(hi:i<n)(_hn:n<=100)(hkc:w.cell? ⟨g,o2+i*5,none⟩=some (.int .i64 5))
  (hL:∀W,Below w.heap.size w W->Calls Tryz.prog 153 #[.agg #[.slice (some ⟨g,o2,none⟩) n cn,.slice af m cf],.int .i64 i] W λe w'=>e=.returned (.bool (decide (ot=0)))/\Below W.heap.size W w'):
  Calls Tryz.prog 135 #[.agg #[.slice (some ⟨g,o2,none⟩) n cn,.slice af m cf],.int .i64 i,.agg #[.int .i64 a,.int .i64 b,.int .i64 el]] w λe w'=>e=.returned (.bool (Nt.joinB 5 a b el ot))/\Below w.heap.size w w':=by
 obtain⟨w1,hw1⟩:=pE ((w.alloc (.cells #[.slice (some ⟨g,o2,none⟩) n cn,.slice af m cf] 30)).alloc (.cells #[.int .i64 a,.int .i64 b,.int .i64 el] 166));have A1:Below w.heap.size w w1:=by rw[<-hw1];exact((Below.refl _ w).alloc (Nat.le_refl _) _).alloc (by simp) _
 have HL:Hid _:=hL w1 A1;have HA:Hid (Below w.heap.size w w1):=A1;have H1:Hid ((w.alloc (.cells #[.slice (some ⟨g,o2,none⟩) n cn,.slice af m cf] 30)).alloc (.cells #[.int .i64 a,.int .i64 b,.int .i64 el] 166)=w1):=hw1;have hi':(i:Int)<n:=by omega
 have hi0:(0:Int)<=i:=by omega
 obtain⟨z,hz⟩:=pE (decide (ot=0));rw[hz]at HL;obtain⟨r,hr⟩:=pE (Nt.joinB 5 a b el ot);rw[hr];rw[show Nt.joinB 5 a b el ot=decide ((a=1/\2<=b/\el=1)∨(2<=a/\b=1))from by simp[Nt.joinB]]at hr;have HR:Hid (decide ((a=1/\2<=b/\el=1)∨(2<=a/\b=1))=r/\decide (ot=0)=z):=⟨hr,hz⟩
 have hA:(((a:Int)==0)=true/\((a:Int)==1)=false/\decide ((1:Int)<a)=false/\Hid (a=0))∨(((a:Int)==0)=false/\((a:Int)==1)=true/\decide ((1:Int)<a)=false/\Hid (a=1))∨(((a:Int)==0)=false/\((a:Int)==1)=false/\decide ((1:Int)<a)=true/\Hid (2<=a)):=by
  rcases Nat.lt_or_ge a 1 with h|h
  ·exact .inl ⟨by simp;omega,by simp;omega,by simp;omega,by show a=0;omega⟩
  rcases Nat.lt_or_ge a 2 with h|h
  ·exact .inr (.inl ⟨by simp;omega,by simp;omega,by simp;omega,by show a=1;omega⟩)
  exact .inr (.inr ⟨by simp;omega,by simp;omega,by simp;omega,h⟩)
 have hB:(((b:Int)==0)=true/\((b:Int)==1)=false/\decide ((1:Int)<b)=false/\Hid (b=0))∨(((b:Int)==0)=false/\((b:Int)==1)=true/\decide ((1:Int)<b)=false/\Hid (b=1))∨(((b:Int)==0)=false/\((b:Int)==1)=false/\decide ((1:Int)<b)=true/\Hid (2<=b)):=by
  rcases Nat.lt_or_ge b 1 with h|h
  ·exact .inl ⟨by simp;omega,by simp;omega,by simp;omega,by show b=0;omega⟩
  rcases Nat.lt_or_ge b 2 with h|h
  ·exact .inr (.inl ⟨by simp;omega,by simp;omega,by simp;omega,by show b=1;omega⟩)
  exact .inr (.inr ⟨by simp;omega,by simp;omega,by simp;omega,h⟩)
 have hE:(((el:Int)==1)=true/\Hid (el=1))∨(((el:Int)==1)=false/\Hid (¬el=1)):=by
  by_cases h:el=1
  ·exact .inl ⟨by simp;omega,h⟩
  exact .inr ⟨by simp;omega,h⟩
 clear hL hw1 A1 hz hr
 rcases hA with⟨a0,a1,a2,a3⟩|⟨a0,a1,a2,a3⟩|⟨a0,a1,a2,a3⟩<;>rcases hB with⟨b0,b1,b2,b3⟩|⟨b0,b1,b2,b3⟩|⟨b0,b1,b2,b3⟩<;>rcases hE with⟨e0,e1⟩|⟨e0,e1⟩
 all_goals
  clear HL
  go_enter Tryz.func135,Tryz.ntmps135
  go_wp2;go_ret;rw[H1.out];refine⟨Tk.ret_bool ?_,HA.out⟩;rw[<-HR.out.1];have x1:=a3.out;have x2:=b3.out;have x3:=e1.out
  first|exact(decide_eq_true (by omega)).symm|exact(decide_eq_false (by omega)).symm
end Go.Proofs
