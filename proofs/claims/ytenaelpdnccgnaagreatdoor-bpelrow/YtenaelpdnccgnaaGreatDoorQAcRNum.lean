import Derived.Test.YtenaelpdnccgnaaGreatDoorQAcFormH
import Derived.Test.YtenaelpdnccgnaaGreatDoorQAcRKid
import Derived.Test.YtenaelpdnccgnaaGreatDoorQBwPart
set_option maxRecDepth 100000
set_option maxHeartbeats 32000000
namespace Go.Proofs
open Go.RowKit Go.Shelf
def Ac.NumP (k a b:Int)(nk nc:Nat)(ot cA cB:Bool)(L:Prop)(N:Nat):Prop:=
 k=1∨k=5∨((k=2∨k=4)/\0<=a/\a<=3)∨(k=3/\(0<=a/\a<=3)/\ot=true)∨((k=6∨k=7∨k=9)/\2<=nk)∨
 (k=8/\2<=nk/\nc=nk/\cA=true)∨(k=10/\nk=1/\0<=a/\a<=4)∨(k=11/\nk=2/\nc=2/\cA=true/\(b=0∨b=1))∨(k=12/\a=3/\2<=nc/\cB=true)∨(k=12/\a≠3/\1<=a/\a<=4)∨
 (k=13/\1<=nk/\L)∨(k=14/\N=0)
namespace Ac
section
variable {a b:Int} {nk nc:Nat} {ot cA cB:Bool} {L:Prop} {N:Nat}
theorem num_1:NumP 1 a b nk nc ot cA cB L N↔True:=by simp[NumP]
theorem num_5:NumP 5 a b nk nc ot cA cB L N↔True:=by simp[NumP]
theorem num_2:NumP 2 a b nk nc ot cA cB L N↔(0<=a/\a<=3):=by simp[NumP]
theorem num_4:NumP 4 a b nk nc ot cA cB L N↔(0<=a/\a<=3):=by simp[NumP]
theorem num_3:NumP 3 a b nk nc ot cA cB L N↔((0<=a/\a<=3)/\ot=true):=by simp[NumP]
theorem num_6:NumP 6 a b nk nc ot cA cB L N↔2<=nk:=by simp[NumP]
theorem num_7:NumP 7 a b nk nc ot cA cB L N↔2<=nk:=by simp[NumP]
theorem num_9:NumP 9 a b nk nc ot cA cB L N↔2<=nk:=by simp[NumP]
theorem num_8:NumP 8 a b nk nc ot cA cB L N↔(2<=nk/\nc=nk/\cA=true):=by simp[NumP]
theorem num_10:NumP 10 a b nk nc ot cA cB L N↔(nk=1/\0<=a/\a<=4):=by simp[NumP]
theorem num_11:NumP 11 a b nk nc ot cA cB L N↔(nk=2/\nc=2/\cA=true/\(b=0∨b=1)):=by simp[NumP]
theorem num_12:NumP 12 a b nk nc ot cA cB L N↔((a=3/\2<=nc/\cB=true)∨(a≠3/\1<=a/\a<=4)):=by simp[NumP]
theorem num_13:NumP 13 a b nk nc ot cA cB L N↔(1<=nk/\L):=by simp[NumP]
theorem num_14:NumP 14 a b nk nc ot cA cB L N↔N=0:=by simp[NumP]
end
end Ac
theorem Tryz.r16num_any (k nd a b op nu : Int) (ta ca ka la na fa : Option Addr) (tn tc nc cc nk kc nl lc nn ncap nf fcap : Nat) (ot : Bool) (cO : Int -> Bool) (L : Prop) (N M : Nat) (w : World) (hnk : nk <= 1000) (hnc : nc <= 1000)
    (CT0 : ∀ W, Below w.heap.size w W -> Calls Tryz.prog 76 #[.agg #[.int .i64 op, .int .i64 nu, .slice ta tn tc], .int .i64 1] W λe w' => e = .returned (.bool ot) /\ Below W.heap.size W w')
    (CC0 : ∀ W (o : Int), Below w.heap.size w W -> Calls Tryz.prog 77 #[.slice ca nc cc, .int .i64 o] W λe w' => e = .returned (.bool (cO o)) /\ Below W.heap.size W w')
    (CL0 : ∀ W, Below w.heap.size w W -> Calls Tryz.prog 78 #[.agg #[.int .i64 k, .int .i64 nd, .int .i64 a, .int .i64 b, .int .i64 op, .int .i64 nu, .slice ta tn tc, .slice ca nc cc, .slice ka nk kc, .slice la nl lc, .slice na nn ncap, .slice fa nf fcap]] W λe w' => Ak.Told L e /\ Below W.heap.size W w')
    (CN0 : ∀ W, Below w.heap.size w W -> Calls Tryz.prog 79 #[.agg #[.slice na nn ncap, .slice fa nf fcap]] W λe w' => e = .returned (.agg #[.int .i64 (N : Int), .int .i64 (M : Int)]) /\ Below W.heap.size W w') :
    Calls Tryz.prog 52 #[.agg #[.int .i64 k, .int .i64 nd, .int .i64 a, .int .i64 b, .int .i64 op, .int .i64 nu, .slice ta tn tc, .slice ca nc cc, .slice ka nk kc, .slice la nl lc, .slice na nn ncap, .slice fa nf fcap]] w λe w' => Ak.Told (Ac.NumP k a b nk nc ot (cO a) (cO b) L N) e /\ Below w.heap.size w w' := by
  obtain ⟨P, hP⟩ : ∃ P, Ac.NumP k a b nk nc ot (cO a) (cO b) L N = P := ⟨_, rfl⟩;rw [hP];obtain ⟨cA, hcA⟩ : ∃ c, cO a = c := ⟨_, rfl⟩;obtain ⟨cB, hcB⟩ : ∃ c, cO b = c := ⟨_, rfl⟩;have CCA : Hid (∀ W, Below w.heap.size w W -> Calls Tryz.prog 77 #[.slice ca nc cc, .int .i64 a] W λe w' => e = .returned (.bool cA) /\ Below W.heap.size W w') := λW hb => by rw [<- hcA]; exact CC0 W a hb
  have CCB : Hid (∀ W, Below w.heap.size w W -> Calls Tryz.prog 77 #[.slice ca nc cc, .int .i64 b] W λe w' => e = .returned (.bool cB) /\ Below W.heap.size W w') := λW hb => by rw [<- hcB]; exact CC0 W b hb
  rw [hcA, hcB] at hP;have HP : Hid (Ac.NumP k a b nk nc ot cA cB L N = P) := hP;have CT : Hid _ := CT0;have CL : Hid _ := CL0;have CN : Hid _ := CN0;obtain ⟨w1, hw1⟩ : ∃ x, w.alloc (.cells #[.int .i64 k, .int .i64 nd, .int .i64 a, .int .i64 b, .int .i64 op, .int .i64 nu, .slice ta tn tc, .slice ca nc cc, .slice ka nk kc, .slice la nl lc, .slice na nn ncap, .slice fa nf fcap] 44) = x := ⟨_, rfl⟩;have B1 : Hid (Below w.heap.size w w1) := by show Below _ _ _; rw [<- hw1]; exact (Below.refl _ w).alloc (Nat.le_refl _) _
  have N1 : w1.heap[w.heap.size]? = some (.cells #[.int .i64 k, .int .i64 nd, .int .i64 a, .int .i64 b, .int .i64 op, .int .i64 nu, .slice ta tn tc, .slice ca nc cc, .slice ka nk kc, .slice la nl lc, .slice na nn ncap, .slice fa nf fcap] 44 (0, 0)) := by rw [<- hw1]; exact heap_alloc_new w _
  obtain ⟨p0, p1, p2, p3, p4, p5, p6, p7, p8, p9, p10, p11⟩ : w1.cell? ⟨w.heap.size, 0, none⟩ = some (.int .i64 k) /\ w1.cell? ⟨w.heap.size, 1, none⟩ = some (.int .i64 nd) /\ w1.cell? ⟨w.heap.size, 2, none⟩ = some (.int .i64 a) /\ w1.cell? ⟨w.heap.size, 3, none⟩ = some (.int .i64 b) /\ w1.cell? ⟨w.heap.size, 4, none⟩ = some (.int .i64 op) /\ w1.cell? ⟨w.heap.size, 5, none⟩ = some (.int .i64 nu) /\ w1.cell? ⟨w.heap.size, 6, none⟩ = some (.slice ta tn tc) /\ w1.cell? ⟨w.heap.size, 7, none⟩ = some (.slice ca nc cc) /\ w1.cell? ⟨w.heap.size, 8, none⟩ = some (.slice ka nk kc) /\ w1.cell? ⟨w.heap.size, 9, none⟩ = some (.slice la nl lc) /\ w1.cell? ⟨w.heap.size, 10, none⟩ = some (.slice na nn ncap) /\ w1.cell? ⟨w.heap.size, 11, none⟩ = some (.slice fa nf fcap) := by simp [World.cell?, N1]
  have HLT : Hid (w.heap.size < w1.heap.size) := (Array.getElem?_eq_some_iff.1 N1).1;have H1 : Hid _ := hw1;clear hP hcA hcB CT0 CC0 CL0 CN0 hw1 N1
  have hv : (a < 0 /\ decide (0 <= a) = false) ∨ (3 < a /\ decide (0 <= a) = true /\ decide (a <= 3) = false) ∨ ((0 <= a /\ a <= 3) /\ decide (0 <= a) = true /\ decide (a <= 3) = true) := by
    by_cases q : a < 0
    · exact .inl ⟨q, decide_eq_false (by omega)⟩
    by_cases q2 : a <= 3
    · exact .inr (.inr ⟨⟨by omega, q2⟩, decide_eq_true (by omega), decide_eq_true q2⟩)
    exact .inr (.inl ⟨by omega, decide_eq_true (by omega), decide_eq_false q2⟩)
  rcases hv with ⟨h0, f0⟩ | ⟨h0, f0, f1⟩ | ⟨h0, f0, f1⟩
  all_goals (
    have HA : Hid _ := h0;clear h0
    go_enter Tryz.func52, Tryz.ntmps52
    go_upto_region 1 with fail
    rw [H1.out];clear H1
    go_upto_region 3 with fail
    by_cases k1 : k = 1
    · subst k1
      go_wp2;go_ret;exact ⟨Ak.Told.yes (by rw [<- HP.out]; exact Ac.num_1.2 trivial), B1.out⟩
    have e1 : (k == 1) = false := by simpa using k1
    by_cases k5 : k = 5
    · subst k5
      go_wp2;go_ret;exact ⟨Ak.Told.yes (by rw [<- HP.out]; exact Ac.num_5.2 trivial), B1.out⟩
    have e5 : (k == 5) = false := by simpa using k5
    by_cases k2 : k = 2
    · subst k2
      go_wp2;go_ret;exact ⟨Ak.Told.iff (by rw [<- HP.out, Ac.num_2]; have := HA.out; simp; omega), B1.out⟩
    have e2 : (k == 2) = false := by simpa using k2
    by_cases k4 : k = 4
    · subst k4
      go_wp2;go_ret;exact ⟨Ak.Told.iff (by rw [<- HP.out, Ac.num_4]; have := HA.out; simp; omega), B1.out⟩
    have e4 : (k == 4) = false := by simpa using k4
    by_cases k3 : k = 3
    · subst k3
      first
      | (go_wp2
         go_ret
         exact ⟨Ak.Told.no (by rw [<- HP.out, Ac.num_3]; have := HA.out; omega), B1.out⟩)
      | (go_wp2_with fail
         refine Calls.mono (CT.out _ B1.out) ?_;rintro e W2 ⟨rfl, b2⟩;have HX : Hid (Below w.heap.size w W2) := B1.out.trans (b2.mono B1.out.size);clear b2 p0 p1 p2 p3 p4 p5 p6 p7 p8 p9 p10 p11;go_wp2;go_ret
         exact ⟨Ak.Told.iff (by rw [<- HP.out, Ac.num_3]; have := HA.out; simp; omega), HX.out⟩)
    have e3 : (k == 3) = false := by simpa using k3
    by_cases k6 : k = 6
    · subst k6
      go_wp2;go_ret;exact ⟨Ak.Told.iff (by rw [<- HP.out, Ac.num_6]; simp; omega), B1.out⟩
    have e6 : (k == 6) = false := by simpa using k6
    by_cases k7 : k = 7
    · subst k7
      go_wp2;go_ret;exact ⟨Ak.Told.iff (by rw [<- HP.out, Ac.num_7]; simp; omega), B1.out⟩
    have e7 : (k == 7) = false := by simpa using k7
    by_cases k9 : k = 9
    · subst k9
      go_wp2;go_ret;exact ⟨Ak.Told.iff (by rw [<- HP.out, Ac.num_9]; simp; omega), B1.out⟩
    have e9 : (k == 9) = false := by simpa using k9
    by_cases k8 : k = 8
    · subst k8
      by_cases q1 : 2 <= nk
      rotate_left
      · have g1 : decide (2 <= (nk : Int)) = false := decide_eq_false (by omega)
        have HQ : Hid (¬ P) := by show ¬ _; rw [<- HP.out, Ac.num_8]; exact λh => q1 h.1
        clear q1;go_wp2;go_ret;exact ⟨Ak.Told.no HQ.out, B1.out⟩
      have g1 : decide (2 <= (nk : Int)) = true := decide_eq_true (by omega)
      by_cases q2 : nc = nk
      · have g2 : ((nc : Int) == nk) = true := by simp [q2]
        have HQ : Hid (P ↔ cA = true) := by show _ ↔ _; rw [<- HP.out, Ac.num_8]; exact ⟨λh => h.2.2, λh => ⟨q1, q2, h⟩⟩
        clear q1 q2
        go_wp2_with fail
        refine Calls.mono (CCA.out _ B1.out) ?_;rintro e W2 ⟨rfl, b2⟩;have HX : Hid (Below w.heap.size w W2) := B1.out.trans (b2.mono B1.out.size);clear b2 p0 p1 p2 p3 p4 p5 p6 p7 p8 p9 p10 p11;go_wp2;go_ret;exact ⟨Ak.Told.iff HQ.out.symm, HX.out⟩
      have g2 : ((nc : Int) == nk) = false := by simp; omega
      have HQ : Hid (¬ P) := by show ¬ _; rw [<- HP.out, Ac.num_8]; exact λh => q2 h.2.1
      clear q1 q2;go_wp2;go_ret;exact ⟨Ak.Told.no HQ.out, B1.out⟩
    have e8 : (k == 8) = false := by simpa using k8
    by_cases k10 : k = 10
    · subst k10
      by_cases q1 : nk = 1
      · have g1 : ((nk : Int) == 1) = true := by simp [q1]
        by_cases q2 : a = 4
        · have g2 : (a == 4) = true := by simp [q2]
          have HQ : Hid P := by show P; rw [<- HP.out, Ac.num_10]; exact ⟨q1, by omega, by omega⟩
          clear q1 q2;go_wp2;go_ret;exact ⟨Ak.Told.iff (by simp [HQ.out]), B1.out⟩
        have g2 : (a == 4) = false := by simpa using q2
        have HQ : Hid (P ↔ (0 <= a /\ a <= 3)) := by show _ ↔ _; rw [<- HP.out, Ac.num_10]; exact ⟨λh => ⟨h.2.1, by omega⟩, λh => ⟨q1, h.1, by omega⟩⟩
        clear q1 q2;go_wp2;go_ret;exact ⟨Ak.Told.iff (by rw [HQ.out]; have := HA.out; simp; omega), B1.out⟩
      have g1 : ((nk : Int) == 1) = false := by simp; omega
      have HQ : Hid (¬ P) := by show ¬ _; rw [<- HP.out, Ac.num_10]; exact λh => q1 h.1
      clear q1;go_wp2;go_ret;exact ⟨Ak.Told.no HQ.out, B1.out⟩
    have e10 : (k == 10) = false := by simpa using k10
    by_cases k11 : k = 11
    · subst k11
      by_cases q1 : nk = 2
      rotate_left
      · have g1 : ((nk : Int) == 2) = false := by simp; omega
        have HQ : Hid (¬ P) := by show ¬ _; rw [<- HP.out, Ac.num_11]; exact λh => q1 h.1
        clear q1;go_wp2;go_ret;exact ⟨Ak.Told.no HQ.out, B1.out⟩
      have g1 : ((nk : Int) == 2) = true := by simp [q1]
      by_cases q2 : nc = 2
      rotate_left
      · have g2 : ((nc : Int) == 2) = false := by simp; omega
        have HQ : Hid (¬ P) := by show ¬ _; rw [<- HP.out, Ac.num_11]; exact λh => q2 h.2.1
        clear q1 q2;go_wp2;go_ret;exact ⟨Ak.Told.no HQ.out, B1.out⟩
      have g2 : ((nc : Int) == 2) = true := by simp [q2]
      have HQ : Hid (P ↔ (cA = true /\ (b = 0 ∨ b = 1))) := by show _ ↔ _; rw [<- HP.out, Ac.num_11]; exact ⟨λh => h.2.2, λh => ⟨q1, q2, h⟩⟩
      clear q1 q2
      go_wp2_with fail
      refine Calls.mono (CCA.out _ B1.out) ?_;rintro e W2 ⟨rfl, b2⟩;have p3' : W2.cell? ⟨w.heap.size, 3, none⟩ = some (.int .i64 b) := by rw [b2.cell (p := ⟨w.heap.size, 3, none⟩) HLT.out]; exact p3
      have HX : Hid (Below w.heap.size w W2) := B1.out.trans (b2.mono B1.out.size);clear b2 p0 p1 p2 p3 p4 p5 p6 p7 p8 p9 p10 p11
      cases cA with
      | false =>
        go_wp2;go_ret;exact ⟨Ak.Told.no (by rw [HQ.out]; exact λh => by cases h.1), HX.out⟩
      | true =>
        by_cases q3 : b = 0
        · have g3 : (b == 0) = true := by simp [q3]
          have HR : Hid P := HQ.out.2 ⟨rfl, .inl q3⟩;clear q3;go_wp2;go_ret;exact ⟨Ak.Told.yes HR.out, HX.out⟩
        have g3 : (b == 0) = false := by simpa using q3
        have HR : Hid (P ↔ b = 1) := ⟨λh => (HQ.out.1 h).2.resolve_left q3, λh => HQ.out.2 ⟨rfl, .inr h⟩⟩;clear q3;go_wp2;go_ret;exact ⟨Ak.Told.iff (by rw [HR.out]; simp), HX.out⟩
    have e11 : (k == 11) = false := by simpa using k11
    by_cases k12 : k = 12
    · subst k12
      by_cases q0 : a = 3
      · have g0 : (a == 3) = true := by simp [q0]
        by_cases q1 : 2 <= nc
        · have g1 : decide (2 <= (nc : Int)) = true := decide_eq_true (by omega)
          have HQ : Hid (P ↔ cB = true) := by show _ ↔ _; rw [<- HP.out, Ac.num_12]; exact ⟨λh => h.elim (λh => h.2.2) (λh => absurd q0 h.1), λh => .inl ⟨q0, q1, h⟩⟩
          clear q0 q1
          go_wp2_with fail
          refine Calls.mono (CCB.out _ B1.out) ?_;rintro e W2 ⟨rfl, b2⟩;have HX : Hid (Below w.heap.size w W2) := B1.out.trans (b2.mono B1.out.size);clear b2 p0 p1 p2 p3 p4 p5 p6 p7 p8 p9 p10 p11;go_wp2;go_ret;exact ⟨Ak.Told.iff HQ.out.symm, HX.out⟩
        have g1 : decide (2 <= (nc : Int)) = false := decide_eq_false (by omega);have HQ : Hid (¬ P) := by show ¬ _; rw [<- HP.out, Ac.num_12]; exact λh => h.elim (λh => q1 h.2.1) (λh => h.1 q0)
        clear q0 q1;go_wp2;go_ret;exact ⟨Ak.Told.no HQ.out, B1.out⟩
      have g0 : (a == 3) = false := by simpa using q0
      have HQ : Hid (P ↔ (1 <= a /\ a <= 4)) := by show _ ↔ _; rw [<- HP.out, Ac.num_12]; exact ⟨λh => h.elim (λh => absurd h.1 q0) (λh => h.2), λh => .inr ⟨q0, h⟩⟩
      clear q0
      by_cases q1 : 1 <= a
      · have g1 : decide (1 <= a) = true := decide_eq_true q1
        have HR : Hid (P ↔ a <= 4) := by show _ ↔ _; rw [HQ.out]; exact ⟨λh => h.2, λh => ⟨q1, h⟩⟩
        clear q1;go_wp2;go_ret;exact ⟨Ak.Told.iff (by rw [HR.out]; simp), B1.out⟩
      have g1 : decide (1 <= a) = false := decide_eq_false q1;have HR : Hid (¬ P) := λh => q1 (HQ.out.1 h).1;clear q1;go_wp2;go_ret;exact ⟨Ak.Told.no HR.out, B1.out⟩
    have e12 : (k == 12) = false := by simpa using k12
    by_cases k13 : k = 13
    · subst k13
      by_cases q1 : 1 <= nk
      · have g1 : decide (1 <= (nk : Int)) = true := decide_eq_true (by omega)
        have HQ : Hid (P ↔ L) := by show _ ↔ _; rw [<- HP.out, Ac.num_13]; exact ⟨λh => h.2, λh => ⟨q1, h⟩⟩
        clear q1
        go_wp2_with fail
        refine Calls.mono (CL.out _ B1.out) ?_;rintro e W2 ⟨⟨r, rfl, hr⟩, b2⟩;have HR : Hid (r = true ↔ L) := hr;have HX : Hid (Below w.heap.size w W2) := B1.out.trans (b2.mono B1.out.size);clear b2 hr p0 p1 p2 p3 p4 p5 p6 p7 p8 p9 p10 p11;go_wp2;go_ret;exact ⟨Ak.Told.iff (HR.out.trans HQ.out.symm), HX.out⟩
      have g1 : decide (1 <= (nk : Int)) = false := decide_eq_false (by omega);have HQ : Hid (¬ P) := by show ¬ _; rw [<- HP.out, Ac.num_13]; exact λh => q1 h.1
      clear q1;go_wp2;go_ret;exact ⟨Ak.Told.no HQ.out, B1.out⟩
    have e13 : (k == 13) = false := by simpa using k13
    by_cases k14 : k = 14
    · subst k14
      have hfd : ∀ W : World, (Instr.field 123 (.agg #[.int .i64 (N : Int), .int .i64 (M : Int)]) 0).run Tryz.prog W = .ok (.int .i64 (N : Int)) W := λ_ => by kernel_rfl
      go_wp2_with fail
      refine Calls.mono (CN.out _ B1.out) ?_;rintro e W2 ⟨rfl, b2⟩;have HX : Hid (Below w.heap.size w W2) := B1.out.trans (b2.mono B1.out.size);clear b2 p0 p1 p2 p3 p4 p5 p6 p7 p8 p9 p10 p11;go_wp2;go_ret;exact ⟨Ak.Told.iff (by rw [<- HP.out, Ac.num_14]; simp), HX.out⟩
    have e14 : (k == 14) = false := by simpa using k14
    have HQ : Hid (¬ P) := by show ¬ _; rw [<- HP.out]; unfold Ac.NumP; omega
    clear k1 k2 k3 k4 k5 k6 k7 k8 k9 k10 k11 k12 k13 k14;go_wp2;go_ret
    exact ⟨Ak.Told.no HQ.out, B1.out⟩)
end Go.Proofs
