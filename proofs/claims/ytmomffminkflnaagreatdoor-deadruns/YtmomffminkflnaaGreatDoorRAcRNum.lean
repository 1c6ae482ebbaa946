import Derived.Test.YtmomffminkflnaaGreatDoorRNtRef5
set_option maxRecDepth 100000
set_option maxHeartbeats 32000000
namespace Go.Proofs
open Go.RowKit Go.Shelf
def Ac.NumP(k a b:Int)(nk nc:Nat)(ot cA cB:Bool)(L:Prop)(N:Nat):Prop:=
 k=1∨k=5∨((k=2∨k=4)/\0<=a/\a<=3)∨(k=3/\(0<=a/\a<=3)/\ot=true)∨((k=6∨k=7∨k=9)/\2<=nk)∨
 (k=8/\2<=nk/\nc=nk/\cA=true)∨(k=10/\nk=1/\0<=a/\a<=4)∨(k=11/\nk=2/\nc=2/\cA=true/\(b=0∨b=1))∨(k=12/\a=3/\2<=nc/\cB=true)∨(k=12/\a≠3/\1<=a/\a<=4)∨
 (k=13/\1<=nk/\L)∨(k=14/\N=0)
namespace Ac
section
variable {a b:Int} {nk nc:Nat} {ot cA cB:Bool} {L:Prop} {N:Nat}
theorem num_1:NumP 1 a b nk nc ot cA cB L N↔True:=by simp [NumP]
theorem num_5:NumP 5 a b nk nc ot cA cB L N↔True:=by simp [NumP]
theorem num_2:NumP 2 a b nk nc ot cA cB L N↔(0<=a/\a<=3):=by simp [NumP]
theorem num_4:NumP 4 a b nk nc ot cA cB L N↔(0<=a/\a<=3):=by simp [NumP]
theorem num_3:NumP 3 a b nk nc ot cA cB L N↔((0<=a/\a<=3)/\ot=true):=by simp [NumP]
theorem num_6:NumP 6 a b nk nc ot cA cB L N↔2<=nk:=by simp [NumP]
theorem num_7:NumP 7 a b nk nc ot cA cB L N↔2<=nk:=by simp [NumP]
theorem num_9:NumP 9 a b nk nc ot cA cB L N↔2<=nk:=by simp [NumP]
theorem num_8:NumP 8 a b nk nc ot cA cB L N↔(2<=nk/\nc=nk/\cA=true):=by simp [NumP]
theorem num_10:NumP 10 a b nk nc ot cA cB L N↔(nk=1/\0<=a/\a<=4):=by simp [NumP]
theorem num_11:NumP 11 a b nk nc ot cA cB L N↔(nk=2/\nc=2/\cA=true/\(b=0∨b=1)):=by simp [NumP]
theorem num_12:NumP 12 a b nk nc ot cA cB L N↔((a=3/\2<=nc/\cB=true)∨(a≠3/\1<=a/\a<=4)):=by simp [NumP]
theorem num_13:NumP 13 a b nk nc ot cA cB L N↔(1<=nk/\L):=by simp [NumP]
theorem num_14:NumP 14 a b nk nc ot cA cB L N↔N=0:=by simp [NumP]
end
end Ac
theorem Tryz.r16num_any (k nd a b op nu : Int) (ta ca ka la na fa : Option Addr) (tn tc nc cc nk kc nl lc nn ncap nf fcap : Nat) (ot : Bool) (cO : Int -> Bool) (L : Prop) (N M : Nat) (w : World) (hnk : nk <= 1000) (hnc : nc <= 1000)
    (CT0 : ∀ W, Below w.heap.size w W -> Calls Tryz.prog 68 #[.agg #[.int .i64 op, .int .i64 nu, .slice ta tn tc], .int .i64 1] W λe w' => e = .returned (.bool ot) /\ Below W.heap.size W w')
    (CC0 : ∀ W (o : Int), Below w.heap.size w W -> Calls Tryz.prog 69 #[.slice ca nc cc, .int .i64 o] W λe w' => e = .returned (.bool (cO o)) /\ Below W.heap.size W w')
    (CL0 : ∀ W, Below w.heap.size w W -> Calls Tryz.prog 70 #[.agg #[.int .i64 k, .int .i64 nd, .int .i64 a, .int .i64 b, .int .i64 op, .int .i64 nu, .slice ta tn tc, .slice ca nc cc, .slice ka nk kc, .slice la nl lc, .slice na nn ncap, .slice fa nf fcap]] W λe w' => Ak.Told L e /\ Below W.heap.size W w')
    (CN0 : ∀ W, Below w.heap.size w W -> Calls Tryz.prog 71 #[.agg #[.slice na nn ncap, .slice fa nf fcap]] W λe w' => e = .returned (.agg #[.int .i64 (N : Int), .int .i64 (M : Int)]) /\ Below W.heap.size W w') :
    Calls Tryz.prog 51 #[.agg #[.int .i64 k, .int .i64 nd, .int .i64 a, .int .i64 b, .int .i64 op, .int .i64 nu, .slice ta tn tc, .slice ca nc cc, .slice ka nk kc, .slice la nl lc, .slice na nn ncap, .slice fa nf fcap]] w λe w' => Ak.Told (Ac.NumP k a b nk nc ot (cO a) (cO b) L N) e /\ Below w.heap.size w w' := by
  obtain ⟨P, hP⟩ : ∃ P, Ac.NumP k a b nk nc ot (cO a) (cO b) L N = P := ⟨_, rfl⟩;rw [hP];obtain ⟨cA, hcA⟩ : ∃ c, cO a = c := ⟨_, rfl⟩;obtain ⟨cB, hcB⟩ : ∃ c, cO b = c := ⟨_, rfl⟩;have CCA : Hid (∀ W, Below w.heap.size w W -> Calls Tryz.prog 69 #[.slice ca nc cc, .int .i64 a] W λe w' => e = .returned (.bool cA) /\ Below W.heap.size W w') := λW hb => by rw [<- hcA]; exact CC0 W a hb
  have CCB : Hid (∀ W, Below w.heap.size w W -> Calls Tryz.prog 69 #[.slice ca nc cc, .int .i64 b] W λe w' => e = .returned (.bool cB) /\ Below W.heap.size W w') := λW hb => by rw [<- hcB]; exact CC0 W b hb
  rw [hcA, hcB] at hP;have HP : Hid (Ac.NumP k a b nk nc ot cA cB L N = P) := hP;have CT : Hid _ := CT0;have CL : Hid _ := CL0;have CN : Hid _ := CN0;obtain ⟨w1, hw1⟩ : ∃ x, w.alloc (.cells #[.int .i64 k, .int .i64 nd, .int .i64 a, .int .i64 b, .int .i64 op, .int .i64 nu, .slice ta tn tc, .slice ca nc cc, .slice ka nk kc, .slice la nl lc, .slice na nn ncap, .slice fa nf fcap] 48) = x := ⟨_, rfl⟩;have B1 : Hid (Below w.heap.size w w1) := by show Below _ _ _; rw [<- hw1]; exact (Below.refl _ w).alloc (Nat.le_refl _) _
  have N1 : w1.heap[w.heap.size]? = some (.cells #[.int .i64 k, .int .i64 nd, .int .i64 a, .int .i64 b, .int .i64 op, .int .i64 nu, .slice ta tn tc, .slice ca nc cc, .slice ka nk kc, .slice la nl lc, .slice na nn ncap, .slice fa nf fcap] 48 (0, 0)) := by rw [<- hw1]; exact heap_alloc_new w _
  obtain ⟨p0, p1, p2, p3, p4, p5, p6, p7, p8, p9, p10, p11⟩ : w1.cell? ⟨w.heap.size, 0, none⟩ = some (.int .i64 k) /\ w1.cell? ⟨w.heap.size, 1, none⟩ = some (.int .i64 nd) /\ w1.cell? ⟨w.heap.size, 2, none⟩ = some (.int .i64 a) /\ w1.cell? ⟨w.heap.size, 3, none⟩ = some (.int .i64 b) /\ w1.cell? ⟨w.heap.size, 4, none⟩ = some (.int .i64 op) /\ w1.cell? ⟨w.heap.size, 5, none⟩ = some (.int .i64 nu) /\ w1.cell? ⟨w.heap.size, 6, none⟩ = some (.slice ta tn tc) /\ w1.cell? ⟨w.heap.size, 7, none⟩ = some (.slice ca nc cc) /\ w1.cell? ⟨w.heap.size, 8, none⟩ = some (.slice ka nk kc) /\ w1.cell? ⟨w.heap.size, 9, none⟩ = some (.slice la nl lc) /\ w1.cell? ⟨w.heap.size, 10, none⟩ = some (.slice na nn ncap) /\ w1.cell? ⟨w.heap.size, 11, none⟩ = some (.slice fa nf fcap) := by simp [World.cell?, N1]
  have HLT : Hid (w.heap.size < w1.heap.size) := (Array.getElem?_eq_some_iff.1 N1).1;have H1 : Hid _ := hw1;clear hP hcA hcB CT0 CC0 CL0 CN0 hw1 N1
  have hv : (a < 0 /\ decide (0 <= a) = false) ∨ (3 < a /\ decide (0 <= a) = true /\ decide (a <= 3) = false) ∨ ((0 <= a /\ a <= 3) /\ decide (0 <= a) = true /\ decide (a <= 3) = true) := by
    by_cases q : a < 0
    · exact .inl ⟨q, decide_eq_false (by omega)⟩
    by_cases q2 : a <= 3
    · exact .inr (.inr ⟨⟨by omega, q2⟩, decide_eq_true (by omega), decide_eq_true q2⟩)
    exact .inr (.inl ⟨by omega, decide_eq_true (by omega), decide_eq_false q2⟩)
  rcases hv with ⟨h0, f0⟩ | ⟨h0, f0, f1⟩ | ⟨h0, f0, f1⟩
  all_goals (
    have HA : Hid _ := h0;clear h0
    go_enter Tryz.func51, Tryz.ntmps51
    go_upto_region 1 with fail
    rw [H1.out];clear H1
    go_upto_region 3 with fail
    by_cases k1 : k = 1
    · subst k1
      go_wp2;go_ret;exact ⟨Ak.Told.yes (by rw [<- HP.out]; exact Ac.num_1.2 trivial), B1.out⟩
    have e1 : (k == 1) = false := by simpa using k1
    by_cases k5 : k = 5
    · subst k5
      go_wp2;go_ret;exact ⟨Ak.Told.yes (by rw [<- HP.out]; exact Ac.num_5.2 trivial), B1.out⟩
    have e5 : (k == 5) = false := by simpa using k5
    by_cases k2 : k = 2
    · subst k2
      go_wp2;go_ret;exact ⟨Ak.Told.iff (by rw [<- HP.out, Ac.num_2]; have := HA.out; simp; omega), B1.out⟩
    have e2 : (k == 2) = false := by simpa using k2
    by_cases k4 : k = 4
    · subst k4
      go_wp2;go_ret;exact ⟨Ak.Told.iff (by rw [<- HP.out, Ac.num_4]; have := HA.out; simp; omega), B1.out⟩
    have e4 : (k == 4) = false := by simpa using k4
    by_cases k3 : k = 3
    · subst k3
      first
      | (go_wp2
         go_ret
         exact ⟨Ak.Told.no (by rw [<- HP.out, Ac.num_3]; have := HA.out; omega), B1.out⟩)
      | (go_wp2_with fail
         refine Calls.mono (CT.out _ B1.out) ?_;rintro e W2 ⟨rfl, b2⟩;have HX : Hid (Below w.heap.size w W2) := B1.out.trans (b2.mono B1.out.size);clear b2 p0 p1 p2 p3 p4 p5 p6 p7 p8 p9 p10 p11;go_wp2;go_ret
         exact ⟨Ak.Told.iff (by rw [<- HP.out, Ac.num_3]; have := HA.out; simp; omega), HX.out⟩)
    have e3 : (k == 3) = false := by simpa using k3
    by_cases k6 : k = 6
    · subst k6
      go_wp2;go_ret;exact ⟨Ak.Told.iff (by rw [<- HP.out, Ac.num_6]; simp; omega), B1.out⟩
    have e6 : (k == 6) = false := by simpa using k6
    by_cases k7 : k = 7
    · subst k7
      go_wp2;go_ret;exact ⟨Ak.Told.iff (by rw [<- HP.out, Ac.num_7]; simp; omega), B1.out⟩
    have e7 : (k == 7) = false := by simpa using k7
    by_cases k9 : k = 9
    · subst k9
      go_wp2;go_ret;exact ⟨Ak.Told.iff (by rw [<- HP.out, Ac.num_9]; simp; omega), B1.out⟩
    have e9 : (k == 9) = false := by simpa using k9
    by_cases k8 : k = 8
    · subst k8
      by_cases q1 : 2 <= nk
      rotate_left
      · have g1 : decide (2 <= (nk : Int)) = false := decide_eq_false (by omega)
        have HQ : Hid (¬ P) := by show ¬ _; rw [<- HP.out, Ac.num_8]; exact λh => q1 h.1
        clear q1;go_wp2;go_ret;exact ⟨Ak.Told.no HQ.out, B1.out⟩
      have g1 : decide (2 <= (nk : Int)) = true := decide_eq_true (by omega)
      by_cases q2 : nc = nk
      · have g2 : ((nc : Int) == nk) = true := by simp [q2]
        have HQ : Hid (P ↔ cA = true) := by show _ ↔ _; rw [<- HP.out, Ac.num_8]; exact ⟨λh => h.2.2, λh => ⟨q1, q2, h⟩⟩
        clear q1 q2
        go_wp2_with fail
        refine Calls.mono (CCA.out _ B1.out) ?_;rintro e W2 ⟨rfl, b2⟩;have HX : Hid (Below w.heap.size w W2) := B1.out.trans (b2.mono B1.out.size);clear b2 p0 p1 p2 p3 p4 p5 p6 p7 p8 p9 p10 p11;go_wp2;go_ret;exact ⟨Ak.Told.iff HQ.out.symm, HX.out⟩
      have g2 : ((nc : Int) == nk) = false := by simp; omega
      have HQ : Hid (¬ P) := by show ¬ _; rw [<- HP.out, Ac.num_8]; exact λh => q2 h.2.1
      clear q1 q2;go_wp2;go_ret;exact ⟨Ak.Told.no HQ.out, B1.out⟩
    have e8 : (k == 8) = false := by simpa using k8
    by_cases k10 : k = 10
    · subst k10
      by_cases q1 : nk = 1
      · have g1 : ((nk : Int) == 1) = true := by simp [q1]
        by_cases q2 : a = 4
        · have g2 : (a == 4) = true := by simp [q2]
          have HQ : Hid P := by show P; rw [<- HP.out, Ac.num_10]; exact ⟨q1, by omega, by omega⟩
          clear q1 q2;go_wp2;go_ret;exact ⟨Ak.Told.iff (by simp [HQ.out]), B1.out⟩
        have g2 : (a == 4) = false := by simpa using q2
        have HQ : Hid (P ↔ (0 <= a /\ a <= 3)) := by show _ ↔ _; rw [<- HP.out, Ac.num_10]; exact ⟨λh => ⟨h.2.1, by omega⟩, λh => ⟨q1, h.1, by omega⟩⟩
        clear q1 q2;go_wp2;go_ret;exact ⟨Ak.Told.iff (by rw [HQ.out]; have := HA.out; simp; omega), B1.out⟩
      have g1 : ((nk : Int) == 1) = false := by simp; omega
      have HQ : Hid (¬ P) := by show ¬ _; rw [<- HP.out, Ac.num_10]; exact λh => q1 h.1
      clear q1;go_wp2;go_ret;exact ⟨Ak.Told.no HQ.out, B1.out⟩
    have e10 : (k == 10) = false := by simpa using k10
    by_cases k11 : k = 11
    · subst k11
      by_cases q1 : nk = 2
      rotate_left
      · have g1 : ((nk : Int) == 2) = false := by simp; omega
        have HQ : Hid (¬ P) := by show ¬ _; rw [<- HP.out, Ac.num_11]; exact λh => q1 h.1
        clear q1;go_wp2;go_ret;exact ⟨Ak.Told.no HQ.out, B1.out⟩
      have g1 : ((nk : Int) == 2) = true := by simp [q1]
      by_cases q2 : nc = 2
      rotate_left
      · have g2 : ((nc : Int) == 2) = false := by simp; omega
        have HQ : Hid (¬ P) := by show ¬ _; rw [<- HP.out, Ac.num_11]; exact λh => q2 h.2.1
        clear q1 q2;go_wp2;go_ret;exact ⟨Ak.Told.no HQ.out, B1.out⟩
      have g2 : ((nc : Int) == 2) = true := by simp [q2]
      have HQ : Hid (P ↔ (cA = true /\ (b = 0 ∨ b = 1))) := by show _ ↔ _; rw [<- HP.out, Ac.num_11]; exact ⟨λh => h.2.2, λh => ⟨q1, q2, h⟩⟩
      clear q1 q2
      go_wp2_with fail
      refine Calls.mono (CCA.out _ B1.out) ?_;rintro e W2 ⟨rfl, b2⟩;have p3' : W2.cell? ⟨w.heap.size, 3, none⟩ = some (.int .i64 b) := by rw [b2.cell (p := ⟨w.heap.size, 3, none⟩) HLT.out]; exact p3
      have HX : Hid (Below w.heap.size w W2) := B1.out.trans (b2.mono B1.out.size);clear b2 p0 p1 p2 p3 p4 p5 p6 p7 p8 p9 p10 p11
      cases cA with
      | false =>
        go_wp2;go_ret;exact ⟨Ak.Told.no (by rw [HQ.out]; exact λh => by cases h.1), HX.out⟩
      | true =>
        by_cases q3 : b = 0
        · have g3 : (b == 0) = true := by simp [q3]
          have HR : Hid P := HQ.out.2 ⟨rfl, .inl q3⟩;clear q3;go_wp2;go_ret;exact ⟨Ak.Told.yes HR.out, HX.out⟩
        have g3 : (b == 0) = false := by simpa using q3
        have HR : Hid (P ↔ b = 1) := ⟨λh => (HQ.out.1 h).2.resolve_left q3, λh => HQ.out.2 ⟨rfl, .inr h⟩⟩;clear q3;go_wp2;go_ret;exact ⟨Ak.Told.iff (by rw [HR.out]; simp), HX.out⟩
    have e11 : (k == 11) = false := by simpa using k11
    by_cases k12 : k = 12
    · subst k12
      by_cases q0 : a = 3
      · have g0 : (a == 3) = true := by simp [q0]
        by_cases q1 : 2 <= nc
        · have g1 : decide (2 <= (nc : Int)) = true := decide_eq_true (by omega)
          have HQ : Hid (P ↔ cB = true) := by show _ ↔ _; rw [<- HP.out, Ac.num_12]; exact ⟨λh => h.elim (λh => h.2.2) (λh => absurd q0 h.1), λh => .inl ⟨q0, q1, h⟩⟩
          clear q0 q1
          go_wp2_with fail
          refine Calls.mono (CCB.out _ B1.out) ?_;rintro e W2 ⟨rfl, b2⟩;have HX : Hid (Below w.heap.size w W2) := B1.out.trans (b2.mono B1.out.size);clear b2 p0 p1 p2 p3 p4 p5 p6 p7 p8 p9 p10 p11;go_wp2;go_ret;exact ⟨Ak.Told.iff HQ.out.symm, HX.out⟩
        have g1 : decide (2 <= (nc : Int)) = false := decide_eq_false (by omega);have HQ : Hid (¬ P) := by show ¬ _; rw [<- HP.out, Ac.num_12]; exact λh => h.elim (λh => q1 h.2.1) (λh => h.1 q0)
        clear q0 q1;go_wp2;go_ret;exact ⟨Ak.Told.no HQ.out, B1.out⟩
      have g0 : (a == 3) = false := by simpa using q0
      have HQ : Hid (P ↔ (1 <= a /\ a <= 4)) := by show _ ↔ _; rw [<- HP.out, Ac.num_12]; exact ⟨λh => h.elim (λh => absurd h.1 q0) (λh => h.2), λh => .inr ⟨q0, h⟩⟩
      clear q0
      by_cases q1 : 1 <= a
      · have g1 : decide (1 <= a) = true := decide_eq_true q1
        have HR : Hid (P ↔ a <= 4) := by show _ ↔ _; rw [HQ.out]; exact ⟨λh => h.2, λh => ⟨q1, h⟩⟩
        clear q1;go_wp2;go_ret;exact ⟨Ak.Told.iff (by rw [HR.out]; simp), B1.out⟩
      have g1 : decide (1 <= a) = false := decide_eq_false q1;have HR : Hid (¬ P) := λh => q1 (HQ.out.1 h).1;clear q1;go_wp2;go_ret;exact ⟨Ak.Told.no HR.out, B1.out⟩
    have e12 : (k == 12) = false := by simpa using k12
    by_cases k13 : k = 13
    · subst k13
      by_cases q1 : 1 <= nk
      · have g1 : decide (1 <= (nk : Int)) = true := decide_eq_true (by omega)
        have HQ : Hid (P ↔ L) := by show _ ↔ _; rw [<- HP.out, Ac.num_13]; exact ⟨λh => h.2, λh => ⟨q1, h⟩⟩
        clear q1
        go_wp2_with fail
        refine Calls.mono (CL.out _ B1.out) ?_;rintro e W2 ⟨⟨r, rfl, hr⟩, b2⟩;have HR : Hid (r = true ↔ L) := hr;have HX : Hid (Below w.heap.size w W2) := B1.out.trans (b2.mono B1.out.size);clear b2 hr p0 p1 p2 p3 p4 p5 p6 p7 p8 p9 p10 p11;go_wp2;go_ret;exact ⟨Ak.Told.iff (HR.out.trans HQ.out.symm), HX.out⟩
      have g1 : decide (1 <= (nk : Int)) = false := decide_eq_false (by omega);have HQ : Hid (¬ P) := by show ¬ _; rw [<- HP.out, Ac.num_13]; exact λh => q1 h.1
      clear q1;go_wp2;go_ret;exact ⟨Ak.Told.no HQ.out, B1.out⟩
    have e13 : (k == 13) = false := by simpa using k13
    by_cases k14 : k = 14
    · subst k14
      have hfd : ∀ W : World, (Instr.field 120 (.agg #[.int .i64 (N : Int), .int .i64 (M : Int)]) 0).run Tryz.prog W = .ok (.int .i64 (N : Int)) W := λ_ => by kernel_rfl
      go_wp2_with fail
      refine Calls.mono (CN.out _ B1.out) ?_;rintro e W2 ⟨rfl, b2⟩;have HX : Hid (Below w.heap.size w W2) := B1.out.trans (b2.mono B1.out.size);clear b2 p0 p1 p2 p3 p4 p5 p6 p7 p8 p9 p10 p11;go_wp2;go_ret;exact ⟨Ak.Told.iff (by rw [<- HP.out, Ac.num_14]; simp), HX.out⟩
    have e14 : (k == 14) = false := by simpa using k14
    have HQ : Hid (¬ P) := by show ¬ _; rw [<- HP.out]; unfold Ac.NumP; omega
    clear k1 k2 k3 k4 k5 k6 k7 k8 k9 k10 k11 k12 k13 k14;go_wp2;go_ret
    exact ⟨Ak.Told.no HQ.out, B1.out⟩)
namespace Ac
theorem has_other {k a:Int} (h:k≠2/\k≠3/\k≠4/\k≠5/\k≠6/\k≠7/\k≠8/\k≠9/\k≠10/\k≠11/\k≠12/\k≠13/\k≠14):hasL k a= []:=by
 unfold hasL;rw [if_neg(by omega),if_neg(by omega),if_neg(by omega),if_neg(by omega),if_neg(by omega),if_neg(by omega),if_neg(by omega),if_neg(by omega),if_neg(by omega),if_neg(by omega),if_neg(by omega)]
theorem has_let(k a:Int):inB(hasL k a)110=hasNodeB k/\inB(hasL k a)97=hasA k/\inB(hasL k a)98=hasB' k a/\inB(hasL k a)116=decide(k=3)/\inB(hasL k a)99=hasC k a/\inB(hasL k a)107=hasK k/\inB(hasL k a)108=decide(k=13)/\inB(hasL k a)112=decide(k=14):=by
 by_cases h:k≠2/\k≠3/\k≠4/\k≠5/\k≠6/\k≠7/\k≠8/\k≠9/\k≠10/\k≠11/\k≠12/\k≠13/\k≠14
 ·rw [has_other h]
  unfold inB hasNodeB hasA hasB' hasC hasK
  simp
  omega
 have:k=2∨k=3∨k=4∨k=5∨k=6∨k=7∨k=8∨k=9∨k=10∨k=11∨k=12∨k=13∨k=14:=by omega
 rcases this with rfl|rfl|rfl|rfl|rfl|rfl|rfl|rfl|rfl|rfl|rfl|rfl|rfl
 all_goals first
  |decide
  |(by_cases h3:a=3
    ·subst h3;decide
    simp [hasL,inB,hasNodeB,hasA,hasB',hasC,hasK,h3])
  |(simp [hasL,inB,hasNodeB,hasA,hasB',hasC,hasK])
end Ac
theorem Ac.hasL_size(k a:Int):(⟨(Ac.hasL k a).toArray⟩:ByteArray).size<=2147483647:=by
 show(Ac.hasL k a).toArray.size<=_;rw [List.size_toArray];unfold Ac.hasL
 repeat' split
 all_goals simp
theorem Ac.combos(k a:Int):(Ac.inB(Ac.hasL k a)110=true/\Ac.inB(Ac.hasL k a)97=true/\Ac.inB(Ac.hasL k a)98=false/\Ac.inB(Ac.hasL k a)116=false/\Ac.inB(Ac.hasL k a)99=false/\Ac.inB(Ac.hasL k a)107=false/\Ac.inB(Ac.hasL k a)108=false/\Ac.inB(Ac.hasL k a)112=false)∨(Ac.inB(Ac.hasL k a)110=true/\Ac.inB(Ac.hasL k a)97=true/\Ac.inB(Ac.hasL k a)98=false/\Ac.inB(Ac.hasL k a)116=true/\Ac.inB(Ac.hasL k a)99=false/\Ac.inB(Ac.hasL k a)107=false/\Ac.inB(Ac.hasL k a)108=false/\Ac.inB(Ac.hasL k a)112=false)∨(Ac.inB(Ac.hasL k a)110=true/\Ac.inB(Ac.hasL k a)97=false/\Ac.inB(Ac.hasL k a)98=false/\Ac.inB(Ac.hasL k a)116=false/\Ac.inB(Ac.hasL k a)99=false/\Ac.inB(Ac.hasL k a)107=false/\Ac.inB(Ac.hasL k a)108=false/\Ac.inB(Ac.hasL k a)112=false)∨(Ac.inB(Ac.hasL k a)110=false/\Ac.inB(Ac.hasL k a)97=false/\Ac.inB(Ac.hasL k a)98=false/\Ac.inB(Ac.hasL k a)116=false/\Ac.inB(Ac.hasL k a)99=false/\Ac.inB(Ac.hasL k a)107=true/\Ac.inB(Ac.hasL k a)108=false/\Ac.inB(Ac.hasL k a)112=false)∨(Ac.inB(Ac.hasL k a)110=true/\Ac.inB(Ac.hasL k a)97=true/\Ac.inB(Ac.hasL k a)98=false/\Ac.inB(Ac.hasL k a)116=false/\Ac.inB(Ac.hasL k a)99=true/\Ac.inB(Ac.hasL k a)107=true/\Ac.inB(Ac.hasL k a)108=false/\Ac.inB(Ac.hasL k a)112=false)∨(Ac.inB(Ac.hasL k a)110=true/\Ac.inB(Ac.hasL k a)97=false/\Ac.inB(Ac.hasL k a)98=false/\Ac.inB(Ac.hasL k a)116=false/\Ac.inB(Ac.hasL k a)99=false/\Ac.inB(Ac.hasL k a)107=true/\Ac.inB(Ac.hasL k a)108=false/\Ac.inB(Ac.hasL k a)112=false)∨(Ac.inB(Ac.hasL k a)110=true/\Ac.inB(Ac.hasL k a)97=true/\Ac.inB(Ac.hasL k a)98=false/\Ac.inB(Ac.hasL k a)116=false/\Ac.inB(Ac.hasL k a)99=false/\Ac.inB(Ac.hasL k a)107=true/\Ac.inB(Ac.hasL k a)108=false/\Ac.inB(Ac.hasL k a)112=false)∨(Ac.inB(Ac.hasL k a)110=true/\Ac.inB(Ac.hasL k a)97=true/\Ac.inB(Ac.hasL k a)98=true/\Ac.inB(Ac.hasL k a)116=false/\Ac.inB(Ac.hasL k a)99=true/\Ac.inB(Ac.hasL k a)107=true/\Ac.inB(Ac.hasL k a)108=false/\Ac.inB(Ac.hasL k a)112=false)∨(Ac.inB(Ac.hasL k a)110=true/\Ac.inB(Ac.hasL k a)97=true/\Ac.inB(Ac.hasL k a)98=true/\Ac.inB(Ac.hasL k a)116=false/\Ac.inB(Ac.hasL k a)99=true/\Ac.inB(Ac.hasL k a)107=false/\Ac.inB(Ac.hasL k a)108=false/\Ac.inB(Ac.hasL k a)112=false)∨(Ac.inB(Ac.hasL k a)110=false/\Ac.inB(Ac.hasL k a)97=false/\Ac.inB(Ac.hasL k a)98=false/\Ac.inB(Ac.hasL k a)116=false/\Ac.inB(Ac.hasL k a)99=false/\Ac.inB(Ac.hasL k a)107=true/\Ac.inB(Ac.hasL k a)108=true/\Ac.inB(Ac.hasL k a)112=false)∨(Ac.inB(Ac.hasL k a)110=false/\Ac.inB(Ac.hasL k a)97=false/\Ac.inB(Ac.hasL k a)98=false/\Ac.inB(Ac.hasL k a)116=false/\Ac.inB(Ac.hasL k a)99=false/\Ac.inB(Ac.hasL k a)107=false/\Ac.inB(Ac.hasL k a)108=false/\Ac.inB(Ac.hasL k a)112=true)∨(Ac.inB(Ac.hasL k a)110=false/\Ac.inB(Ac.hasL k a)97=false/\Ac.inB(Ac.hasL k a)98=false/\Ac.inB(Ac.hasL k a)116=false/\Ac.inB(Ac.hasL k a)99=false/\Ac.inB(Ac.hasL k a)107=false/\Ac.inB(Ac.hasL k a)108=false/\Ac.inB(Ac.hasL k a)112=false):=by
 obtain⟨e1,e2,e3,e4,e5,e6,e7,e8⟩:=Ac.has_let k a;rw [e1,e2,e3,e4,e5,e6,e7,e8]
 by_cases h:k≠2/\k≠3/\k≠4/\k≠5/\k≠6/\k≠7/\k≠8/\k≠9/\k≠10/\k≠11/\k≠12/\k≠13/\k≠14
 ·refine .inr(.inr(.inr(.inr(.inr(.inr(.inr(.inr(.inr(.inr(.inr ?_))))))))))
  unfold Ac.hasNodeB Ac.hasA Ac.hasB' Ac.hasC Ac.hasK
  simp
  omega
 have:k=2∨k=3∨k=4∨k=5∨k=6∨k=7∨k=8∨k=9∨k=10∨k=11∨k=12∨k=13∨k=14:=by omega
 rcases this with rfl|rfl|rfl|rfl|rfl|rfl|rfl|rfl|rfl|rfl|rfl|rfl|rfl
 all_goals first
  |decide
  |(by_cases h3:a=3
    ·subst h3;decide
    simp [Ac.hasNodeB,Ac.hasA,Ac.hasB',Ac.hasC,Ac.hasK,h3])
  |(simp [Ac.hasNodeB,Ac.hasA,Ac.hasB',Ac.hasC,Ac.hasK];omega)
  |(simp [Ac.hasNodeB,Ac.hasA,Ac.hasB',Ac.hasC,Ac.hasK])
theorem Tryz.r16bare_any(d e:Nat)(T:Ac)(V:Ac.Vs)(w:World)(hT:Ac.Lies w w.heap.size e d V T)(hF:T.Fit):
  Calls Tryz.prog 50 #[.agg(Ac.row T V)]w λe w'=>Ak.Told T.Bare e/\Below w.heap.size w w':=by
 obtain⟨a6,c6,a7,c7,a8,c8,a9,c9,a10,c10,a11,c11,rfl⟩:=hT.shape
 have key:=Tryz.r16bare_lit T.kind T.node T.a T.b T.t.op T.t.num a6 a7 a8 a9 a10 a11 T.t.ks.length c6 T.cs.length c7 T.ks.length c8 T.ls.length c9 T.ns.length c10 T.fs.length c11⟨(Ac.hasL T.kind T.a).toArray⟩(Nt.zeroB T.t)_ _ _ _ _ _ _ _ w(Ac.combos T.kind T.a)
  (λW _=>Tryz.r16Has_any T.kind T.a _ _ _ _ _ _ _ _ _ _ W)
  (λW=>Tryz.r16in_any _ 110 W(Ac.hasL_size _ _))(λW=>Tryz.r16in_any _ 97 W(Ac.hasL_size _ _))(λW=>Tryz.r16in_any _ 98 W(Ac.hasL_size _ _))(λW=>Tryz.r16in_any _ 116 W(Ac.hasL_size _ _))(λW=>Tryz.r16in_any _ 99 W(Ac.hasL_size _ _))(λW=>Tryz.r16in_any _ 107 W(Ac.hasL_size _ _))(λW=>Tryz.r16in_any _ 108 W(Ac.hasL_size _ _))(λW=>Tryz.r16in_any _ 112 W(Ac.hasL_size _ _))
  (λW hb=>Tryz.r16none_any e T.t _ W((hT.own.t.below hb).wider hb.size)hF.t.1)
 refine key.mono λe' w' h=>⟨?_,h.2⟩;obtain⟨r,h1,h2⟩:=h.1;refine⟨r,h1,h2.trans ?_⟩;obtain⟨e1,e2,e3,e4,e5,e6,e7,e8⟩:=Ac.has_let T.kind T.a;rw [e1,e2,e3,e4,e5,e6,e7,e8];unfold Ac.Bare;simp only [decide_eq_false_iff_not]
theorem Tryz.r16numbered_any(d e:Nat)(T:Ac)(V:Ac.Vs)(w:World)(hT:Ac.Lies w w.heap.size e d V T)(hF:T.Fit):
  Calls Tryz.prog 51 #[.agg(Ac.row T V)]w λe w'=>Ak.Told T.Numbered e/\Below w.heap.size w w':=by
 obtain⟨a6,c6,a7,c7,a8,c8,a9,c9,a10,c10,a11,c11,rfl⟩:=hT.shape;obtain⟨q7,p7,h7,hC⟩:=hT.own.c;obtain⟨q10,p10,h10,hN⟩:=hT.own.n;obtain⟨q11,p11,h11,hL⟩:=hT.own.f;simp only [Value.slice.injEq]at h7 h10 h11;obtain⟨rfl,-,rfl⟩:=h7;obtain⟨rfl,-,rfl⟩:=h10;obtain⟨rfl,-,rfl⟩:=h11
 have key:=Tryz.r16num_any T.kind T.node T.a T.b T.t.op T.t.num a6 a7 a8 a9 a10 a11 T.t.ks.length c6 T.cs.length c7 T.ks.length c8 T.ls.length c9 T.ns.length c10 T.fs.length c11(Nt.ofB T.t 1)(λo=>(decide(0<=o)&&decide(o<(T.cs.length:Int)))&&Ac.choiceB T.cs o)T.LinkD(Nt.checkN T.ns T.fs).1(Nt.checkN T.ns T.fs).2 w(by have:=hF.kl;omega)(by have:=hF.cl;omega)
  (λW hb=>Tryz.r16of_any 1 e T.t _ W((hT.own.t.below hb).wider hb.size)hF.t.1)
  (λW o hb=>Tryz.r16conds_any T.cs a7 c7 o e W((hC.keep hb.block).wider hb.size)(λx hx=>(hF.c x hx).1)(by have:=hF.cl;omega))
  (λW hb=>Tryz.r16linked_any d e T⟨.slice a6 T.t.ks.length c6, .slice a7 T.cs.length c7, .slice a8 T.ks.length c8, .slice a9 T.ls.length c9, .slice a10 T.ns.length c10, .slice a11 T.fs.length c11⟩W((hT.below hb).wider hb.size)hF.ll hF.kl)
  (λW hb=>Tryz.rCheck_any a10 c10 a11 c11 e T.ns T.fs W⟨(hN.below hb).wider hb.size,(hL.below hb).wider hb.size,hF.nl,hF.fl,λx hx=>(hF.n x hx).1,λx hx=>(hF.f x hx).1⟩)
 refine key.mono λe' w' h=>⟨?_,h.2⟩;obtain⟨r,h1,h2⟩:=h.1;refine⟨r,h1,h2.trans ?_⟩;unfold Ac.NumP Ac.Numbered Ac.Conds;simp only [Bool.and_eq_true,decide_eq_true_eq]
theorem Ak.load_want {ops:Array Oper} {rest:List Oper} {o:Oper} {a:Act} {w:World} {Q:Exit->Act->World->Prop} (hw:Region.wanted o(yielded ops a.tmps)=true)(ty:TypeId)(x:Operand)(ho:o.op= .load ty x)
  (b p:Nat)(hx:a.eval x= .pointer(some⟨b,p,none⟩))(cs:List Value)(d:TypeDesc)(hr:w.rangeAt b p cs)(hu:Tryz.prog.underlying ty=some d)(hd:d.isRow=true)(hi:(Tryz.prog.info? ty).map(·.size)=some cs.length)
  (h:wpList Tryz.prog ops Q rest(a.put o.dst(.agg cs.toArray))w):wpList Tryz.prog ops Q(o::rest)a w:=
 wpList_step λK hK=>by
  simp only [hw,if_true];unfold Oper.wp execOp;simp only [ho,hx,Instr.loadAt,Instr.sureAddr,Sem.run_bind,Sem.run_pure,Result.andThen_ok,run_loadVar_mid w b p ty cs d hr hu hd hi];exact hK _ _ h
theorem Ak.range_box {W:World} {g:Nat} {xs:Array Value} {ty:TypeId} {z:Nat×Nat} (h:W.heap[g]? =some(.cells xs ty z)):W.rangeAt g 0 xs.toList:=λi v hv=>by
 rw [Array.getElem?_toList]at hv;rw [Nat.zero_add];simp [World.cell?,h,hv]
def Ac.FormAll(T:Ac):Prop:=T.All Ac.FormD
theorem Ac.formAll_iff(T:Ac):T.FormAll↔(T.Bare/\0<=T.node/\T.node<=23/\T.Numbered/\ ∀j(h:j<T.ks.length),Ac.kidBadD T.kind T.ks[j].kind=false/\T.ks[j].FormAll):=by
 unfold Ac.FormAll
 have key: ∀l:List Ac,Ac.Alls Ac.FormD l↔ ∀j(h:j<l.length),l[j].All Ac.FormD:=by
  intro l
  induction l with
  |nil=>simp [Ac.Alls]
  |cons x r ih=>
   rw [Ac.Alls,ih]
   constructor
   ·rintro⟨h1,h2⟩j hj
    cases j with
    |zero=>exact h1
    |succ j=>exact h2 j(by simpa using hj)
   intro h;exact⟨h 0(by simp),λj hj=>h(j+1)(by simpa using hj)⟩
 rw [Ac.all_eq,key]
 constructor
 ·rintro⟨hf,h6⟩
  obtain⟨h1,⟨h2,h3⟩,h4,h5⟩:=hf;exact⟨h1,h2,h3,h4,λj hj=>⟨h5 _(List.getElem_mem hj),h6 j hj⟩⟩
 rintro⟨h1,h2,h3,h4,h5⟩;refine⟨⟨h1,⟨h2,h3⟩,h4,λk hk=> ?_⟩,λj hj=>(h5 j hj).2⟩;obtain⟨j,hj,rfl⟩:=List.getElem_of_mem hk;exact(h5 j hj).1
theorem Tryz.r16Form_any: ∀(d e:Nat)(T:Ac)(V:Ac.Vs)(w:World),Ac.Lies w w.heap.size e d V T->T.All Ac.Fit->T.size<=2147483647->
  Calls Tryz.prog 42 #[.agg(Ac.row T V)]w λe w'=>Ak.Told T.FormAll e/\Below w.heap.size w w':=by
 intro d
 induction d with
 |zero=>intro e T V w h;exact h.elim
 |succ d ih=>
  intro e T V w hT hFA hsz;rw [T.all_eq]at hFA;obtain⟨a,cap,hvk⟩:=hT.kids;obtain⟨n,hn⟩: ∃n,T.ks.length=n:=⟨_,rfl⟩;rw [hn]at hvk;have hnb:n<=2147483647:=by have h1:=Ac.length_le_sizes T.ks;have h2:=T.size_eq;omega
  obtain⟨k,hk⟩: ∃k,T.kind=k:=⟨_,rfl⟩;obtain⟨m,hm⟩: ∃k,T.node=k:=⟨_,rfl⟩;obtain⟨x2,x3,x4,x5,x6,x7,x9,x10,x11,hrow⟩: ∃x2 x3 x4 x5 x6 x7 x9 x10 x11,Ac.row T V= #[.int .i64 k, .int .i64 m,x2,x3,x4,x5,x6,x7, .slice a n cap,x9,x10,x11]:=⟨_,_,_,_,_,_,_,_,_,by unfold Ac.row;rw [hvk,hk,hm]⟩;obtain⟨P,hP⟩: ∃P,T.FormAll=P:=⟨_,rfl⟩;obtain⟨PB,hPB⟩: ∃P,T.Bare=P:=⟨_,rfl⟩;obtain⟨PN,hPN⟩: ∃P,T.Numbered=P:=⟨_,rfl⟩
  have HP:Hid(P↔(PB/\0<=m/\m<=23/\PN/\ ∀j(h:j<T.ks.length),Ac.kidBadD k T.ks[j].kind=false/\T.ks[j].FormAll)):=by
   show _↔_;rw [<-hP,T.formAll_iff,hPB,hPN,hk,hm]
  rw [hP];have CB0: ∀W,Below w.heap.size w W->Calls Tryz.prog 50 #[.agg(Ac.row T V)]W λe w'=>Ak.Told PB e/\Below W.heap.size W w':=λW hb=>by rw [<-hPB];exact Tryz.r16bare_any _ e T V W((hT.below hb).wider hb.size)hFA.1
  have CN0: ∀W,Below w.heap.size w W->Calls Tryz.prog 51 #[.agg(Ac.row T V)]W λe w'=>Ak.Told PN e/\Below W.heap.size W w':=λW hb=>by rw [<-hPN];exact Tryz.r16numbered_any _ e T V W((hT.below hb).wider hb.size)hFA.1
  rw [hrow]at CB0 CN0⊢;obtain⟨w1,hw1⟩: ∃z,w.alloc(.cells #[.int .i64 k, .int .i64 m,x2,x3,x4,x5,x6,x7, .slice a n cap,x9,x10,x11]48)=z:=⟨_,rfl⟩;have B1:Below w.heap.size w w1:=by rw [<-hw1];exact(Below.refl _ w).alloc(Nat.le_refl _)_
  have N1:w1.heap[w.heap.size]? =some(.cells #[.int .i64 k, .int .i64 m,x2,x3,x4,x5,x6,x7, .slice a n cap,x9,x10,x11]48(0,0)):=by rw [<-hw1];exact heap_alloc_new w _
  have H1:Hid _:=hw1;have CB:Hid _:=CB0;have CN:Hid _:=CN0;have HF:Hid(∀W,Below w1.heap.size w1 W->W.heap[w.heap.size]? =some(.cells #[.int .i64 k, .int .i64 m,x2,x3,x4,x5,x6,x7, .slice a n cap,x9,x10,x11]48(0,0))/\Below w.heap.size w W):=λW hb=>⟨(hb.block _(Array.getElem?_eq_some_iff.1 N1).1).trans N1,B1.trans(hb.mono B1.size)⟩;have HT:Hid(Ac.Lies w w.heap.size e(d+1)V T/\V.k= .slice a n cap):=⟨hT,hvk⟩;have HI:Hid _:=ih;have HM:Hid(T.ks.length=n/\T.size<=2147483647/\Ac.Alls Ac.Fit T.ks):=⟨hn,hsz,hFA.2⟩;have ha:=Tryz.underlying48;have ia:(Tryz.prog.info? 48).map(·.size)=some(#[.int .i64 k, .int .i64 m,x2,x3,x4,x5,x6,x7, .slice a n cap,x9,x10,x11]:Array Value).size:=Ak.rinfo;clear ih hT hFA hsz hvk hn hrow hw1 B1 hP hPB hPN CB0 CN0 hk hm
  go_enter Tryz.func42,Tryz.ntmps42
  go_upto_region 1 with fail
  rw [H1.out];clear H1
  go_wp2_with(refine wpList_load_row rfl 48 _ rfl _ rfl 48 _(0,0)_ N1 ha rfl ia ?_)
  refine Calls.mono(CB.out _(HF.out _(Below.refl _ _)).2) ?_;rintro e2 W2⟨⟨r,rfl,hr⟩,b2⟩;have HB2:Hid(Below w1.heap.size w1 W2):=b2;have HR:Hid(r=true↔PB):=hr;have N2:=(HF.out _ b2).1;have HX2:Hid(Below w.heap.size w W2):=(HF.out _ b2).2;clear b2 hr N1 CB;have p0:W2.cell? ⟨w.heap.size,0,none⟩=some(.int .i64 k):=by simp [World.cell?,N2]
  have p1:W2.cell? ⟨w.heap.size,1,none⟩=some(.int .i64 m):=by simp [World.cell?,N2]
  cases r with
  |false=>
   have HN:Hid(¬P):=λh=>by have:=HR.out.2(HP.out.1 h).1;cases this
   go_wp2;go_ret;exact⟨Ak.Told.no HN.out,HX2.out⟩
  |true=>
  have HPB:Hid PB:=HR.out.1 rfl;clear HR
  by_cases g1:m<0
  ·have f1:decide(m<0)=true:=decide_eq_true g1
   have HN:Hid(¬P):=λh=>by have:=(HP.out.1 h).2.1;omega
   clear g1;go_wp2;go_ret;exact⟨Ak.Told.no HN.out,HX2.out⟩
  have f1:decide(m<0)=false:=decide_eq_false g1
  by_cases g2:23<m
  ·have f2:decide(23<m)=true:=decide_eq_true g2
   have HN:Hid(¬P):=λh=>by have:=(HP.out.1 h).2.2.1;omega
   clear g1 g2;go_wp2;go_ret;exact⟨Ak.Told.no HN.out,HX2.out⟩
  have f2:decide(23<m)=false:=decide_eq_false g2;have HMM:Hid(0<=m/\m<=23):=⟨by omega,by omega⟩;have RG:=Ak.range_box N2;clear g1 g2
  go_wp2_with(refine Ak.load_want(by rfl)48 _ rfl w.heap.size 0 rfl _ _ RG ha rfl ia ?_)
  refine Calls.mono(CN.out _ HX2.out) ?_;rintro e3 W3⟨⟨r,rfl,hr⟩,b3⟩;have HB3:Hid(Below w1.heap.size w1 W3):=HB2.out.trans(b3.mono HB2.out.size);have HR:Hid(r=true↔PN):=hr;have HX3:Hid(Below w.heap.size w W3):=(HF.out _ HB3.out).2;have N3:=(HF.out _ HB3.out).1;clear b3 hr N2 CN RG p0 p1 f1 f2 HB2 HX2;have p0:W3.cell? ⟨w.heap.size,0,none⟩=some(.int .i64 k):=by simp [World.cell?,N3]
  have p8:W3.cell? ⟨w.heap.size,8,none⟩=some(.slice a n cap):=by simp [World.cell?,N3]
  cases r with
  |false=>
   have HN:Hid(¬P):=λh=>by have:=HR.out.2(HP.out.1 h).2.2.2.1;cases this
   go_wp2;go_ret;exact⟨Ak.Told.no HN.out,HX3.out⟩
  |true=>
  have HPN:Hid PN:=HR.out.1 rfl;clear HR N3;go_wp2
  go_loopg [4,26]n(λgk _ s26 wr=> ∃j:Nat,gk+j=n/\s26= .int .i64 j/\Hid((∀i(h:i<T.ks.length),i<j->Ac.kidBadD k T.ks[i].kind=false/\T.ks[i].FormAll)/\Below w1.heap.size w1 wr))
  case atStart=>exact⟨0,by omega,rfl,λi _ h=>absurd h(by omega),HB3.out⟩
  case round=>
   obtain⟨j,hj,rfl,HJ⟩:=hrel;clear p0 p8
   by_cases hjn:j<n
   rotate_left
   ·have hd:decide((j:Int)<n)=false:=decide_eq_false(by omega)
    have HPP:Hid P:=HP.out.2⟨HPB.out,HMM.out.1,HMM.out.2,HPN.out,λi h=>HJ.out.1 i h(by have:=HM.out.1;omega)⟩;have HX:Hid(Below w.heap.size w wr):=(HF.out _ HJ.out.2).2;go_wp2;go_ret;exact⟨Ak.Told.yes HPP.out,HX.out⟩
   have hd:decide((j:Int)<n)=true:=decide_eq_true(by omega);have hjk:j<T.ks.length:=by rw [HM.out.1];exact hjn
   have hxs:=Ac.sizes_get T.ks j hjk;have j0:(0:Int)<=j:=by omega
   have j1:(j:Int)<n:=by omega
   obtain⟨g,off,U,xs,w2,K⟩:=Ak.kid_at HT.out.1 HT.out.2(HF.out _ HJ.out.2).2 j hjk;have hfk:=Ac.alls_get HM.out.2.2 j hjk;have HNO:Hid(¬(Ac.kidBadD k T.ks[j].kind=false/\T.ks[j].FormAll)-> ¬P):=λh h2=>h((HP.out.1 h2).2.2.2.2 j hjk);obtain⟨x,hx⟩: ∃x,T.ks[j]=x:=⟨_,rfl⟩;rw [hx]at hxs K hfk HNO;have hcall:=HI.out e x U w2 K.lies hfk(by have:=HM.out.2.1;have:=T.size_eq;omega);obtain⟨y,hy⟩: ∃y,x.kind=y:=⟨_,rfl⟩;obtain⟨Q,hQ⟩: ∃Q,x.FormAll=Q:=⟨_,rfl⟩;have hr0:xs[0]? =some(.int .i64 y):=by rw [<-K.row,<-hy];rfl
   rw [K.row,hQ]at hcall;rw [hy,hQ]at HNO;have HC:Hid _:=hcall;have HY:Hid(T.ks[j]=x/\x.kind=y/\x.FormAll=Q):=⟨hx,hy,hQ⟩;obtain⟨rfl,-,ryr,xone,ix,ixl,NZ,ez,hw2,NK,B2,-,-⟩:=K;have HB2:Hid(Below w1.heap.size w1 w2):=HJ.out.2.trans(B2.mono HJ.out.2.size);obtain⟨kb,hkb⟩: ∃z,wr.heap.size=z:=⟨_,rfl⟩;have HKB:Hid(wr.heap.size=kb):=hkb;have HW2:Hid _:=hw2;rw [hkb]at NK;have NB:=(HF.out _ HB2.out).1;have p0:w2.cell? ⟨w.heap.size,0,none⟩=some(.int .i64 k):=by simp [World.cell?,NB]
   have k0:w2.cell? ⟨kb,0,none⟩=some(.int .i64 y):=by simp [World.cell?,NK,hr0]
   have RK:=Ak.range_box NK;have HX2:Hid(Below w.heap.size w w2):=(HF.out _ HB2.out).2;clear hx hxs hcall hy hQ B2 hw2 hkb hfk NB NK hr0
   by_cases g0:Ac.kidBadD k y=true
   ·have HN:Hid(¬P):=HNO.out λh=>by rw [g0]at h;cases h.1
    unfold Ac.kidBadD at g0;have g0:=of_decide_eq_true g0;clear HNO HC
    go_upto_region 6 with(first
     |refine wpList_load_mid rfl 48 _ rfl g(off+j*12)rfl xs.toList _ ryr ha rfl ixl ?_
     |refine wpList_store_row rfl 48 _ _ rfl wr.heap.size xs rfl rfl 48 _ NZ ix ez xone ?_)
    rw [HW2.out,HKB.out];clear ryr NZ HW2 HKB RK;have gg:13<=y∨(y=12/\k≠13)∨(¬13<=y/\y≠12/\y=10/\k≠9)∨(¬13<=y/\y≠12/\y≠10/\k=9):=by omega
    rcases gg with g|g|g|g
    ·have q0:decide(13<=y)=true:=decide_eq_true g
     clear g g0;go_wp2;go_ret;exact⟨Ak.Told.no HN.out,HX2.out⟩
    ·have q0:decide(13<=y)=false:=decide_eq_false(by omega)
     have q1:(y==12)=true:=by simp;omega
     have q2:(k !=13)=true:=by simp;omega
     clear g g0;go_wp2;go_ret;exact⟨Ak.Told.no HN.out,HX2.out⟩
    ·have q0:decide(13<=y)=false:=decide_eq_false(by omega)
     have q1:(y==12)=false:=by simp;omega
     have q2:(y==10)=true:=by simp;omega
     have q3:(k !=9)=true:=by simp;omega
     clear g g0;go_wp2;go_ret;exact⟨Ak.Told.no HN.out,HX2.out⟩
    have q0:decide(13<=y)=false:=decide_eq_false(by omega);have q1:(y==12)=false:=by simp;omega
    have q2:(y==10)=false:=by simp;omega
    have q3:(y !=10)=true:=by simp;omega
    have q4:(k==9)=true:=by simp;omega
    clear g g0;go_wp2;go_ret;exact⟨Ak.Told.no HN.out,HX2.out⟩
   have g0':Ac.kidBadD k y=false:=by simpa using g0
   have HG:Hid(Ac.kidBadD k y=false):=g0';unfold Ac.kidBadD at g0';have g0':=of_decide_eq_false g0'
   go_upto_region 6 with(first
    |refine wpList_load_mid rfl 48 _ rfl g(off+j*12)rfl xs.toList _ ryr ha rfl ixl ?_
    |refine wpList_store_row rfl 48 _ _ rfl wr.heap.size xs rfl rfl 48 _ NZ ix ez xone ?_)
   rw [HW2.out,HKB.out];clear ryr NZ HW2 HKB g0;have q0:decide(13<=y)=false:=decide_eq_false(by omega);have gg:(y=12/\k=13)∨(y=10/\k=9)∨(y≠12/\y≠10/\k≠9):=by omega
   have key:Calls Tryz.prog 42 #[.agg xs]w2 λe w'=>Ak.Told Q e/\Below w2.heap.size w2 w':=HC.out;have HC:Hid _:=key;clear key
   rcases gg with g|g|g
   ·have q1:(y==12)=true:=by simp;omega
    have q2:(k !=13)=false:=by simp;omega
    have q3:(y==10)=false:=by simp;omega
    have q4:(y !=10)=true:=by simp;omega
    have q5:(k==9)=false:=by simp;omega
    clear g g0'
    go_wp2_with(refine Ak.load_want(by rfl)48 _ rfl kb 0 rfl xs.toList _ RK ha rfl ixl ?_)
    refine Calls.mono HC.out ?_;rintro e4 W4⟨⟨r,rfl,hr⟩,b4⟩;have HB4:Hid(Below w1.heap.size w1 W4):=HB2.out.trans(b4.mono HB2.out.size);have HX4:Hid(Below w.heap.size w W4):=(HF.out _ HB4.out).2;have HR:Hid(r=true↔Q):=hr;clear b4 hr HC RK p0 k0
    cases r with
    |false=>
     have HN:Hid(¬P):=HNO.out λh=>by have:=HR.out.2 h.2;cases this
     go_wp2;go_ret;exact⟨Ak.Told.no HN.out,HX4.out⟩
    |true=>
     go_wp2;go_roundg(gk-1)
     case measure=>omega
     case rel=>
      refine⟨j+1,by omega,by go_num,λi h hi=> ?_,HB4.out⟩
      by_cases e:i=j
      ·subst e;rw [HY.out.1,HY.out.2.1,HY.out.2.2];exact⟨HG.out,HR.out.1(by first|rfl|trivial)⟩
      exact HJ.out.1 i h(by omega)
   ·have q1:(y==12)=false:=by simp;omega
    have q3:(y==10)=true:=by simp;omega
    have q2:(k !=9)=false:=by simp;omega
    have q4:(y !=10)=false:=by simp;omega
    clear g g0'
    go_wp2_with(refine Ak.load_want(by rfl)48 _ rfl kb 0 rfl xs.toList _ RK ha rfl ixl ?_)
    refine Calls.mono HC.out ?_;rintro e4 W4⟨⟨r,rfl,hr⟩,b4⟩;have HB4:Hid(Below w1.heap.size w1 W4):=HB2.out.trans(b4.mono HB2.out.size);have HX4:Hid(Below w.heap.size w W4):=(HF.out _ HB4.out).2;have HR:Hid(r=true↔Q):=hr;clear b4 hr HC RK p0 k0
    cases r with
    |false=>
     have HN:Hid(¬P):=HNO.out λh=>by have:=HR.out.2 h.2;cases this
     go_wp2;go_ret;exact⟨Ak.Told.no HN.out,HX4.out⟩
    |true=>
     go_wp2;go_roundg(gk-1)
     case measure=>omega
     case rel=>
      refine⟨j+1,by omega,by go_num,λi h hi=> ?_,HB4.out⟩
      by_cases e:i=j
      ·subst e;rw [HY.out.1,HY.out.2.1,HY.out.2.2];exact⟨HG.out,HR.out.1(by first|rfl|trivial)⟩
      exact HJ.out.1 i h(by omega)
   have q1:(y==12)=false:=by simp;omega
   have q3:(y==10)=false:=by simp;omega
   have q4:(y !=10)=true:=by simp;omega
   have q5:(k==9)=false:=by simp;omega
   clear g g0'
   go_wp2_with(refine Ak.load_want(by rfl)48 _ rfl kb 0 rfl xs.toList _ RK ha rfl ixl ?_)
   refine Calls.mono HC.out ?_;rintro e4 W4⟨⟨r,rfl,hr⟩,b4⟩;have HB4:Hid(Below w1.heap.size w1 W4):=HB2.out.trans(b4.mono HB2.out.size);have HX4:Hid(Below w.heap.size w W4):=(HF.out _ HB4.out).2;have HR:Hid(r=true↔Q):=hr;clear b4 hr HC RK p0 k0
   cases r with
   |false=>
    have HN:Hid(¬P):=HNO.out λh=>by have:=HR.out.2 h.2;cases this
    go_wp2;go_ret;exact⟨Ak.Told.no HN.out,HX4.out⟩
   |true=>
    go_wp2;go_roundg(gk-1)
    case measure=>omega
    case rel=>
     refine⟨j+1,by omega,by go_num,λi h hi=> ?_,HB4.out⟩
     by_cases e:i=j
     ·subst e;rw [HY.out.1,HY.out.2.1,HY.out.2.2];exact⟨HG.out,HR.out.1(by first|rfl|trivial)⟩
     exact HJ.out.1 i h(by omega)
end Go.Proofs
namespace Go.Proofs
namespace Ac
theorem numbered_kind {T:Ac} (h:T.Numbered):1<=T.kind/\T.kind<=14:=by unfold Numbered at h;omega
theorem formed_kind {T:Ac} (h:T.Formed):1<=T.kind/\T.kind<=14:=by
 unfold Formed at h
 rcases h with h|h|h|h|h|h|h|h|h|h|h|h|h|h|h<;>(have:=h.1;omega)
theorem formed_gate {T:Ac} (h:T.Formed)(hk:T.kind=12):1<=T.a/\T.a<=4:=by
 by_cases ha:T.a=3
 ·omega
 have:=(formed_12b hk ha).1 h;omega
theorem formD_gate {T:Ac} (h:T.FormD)(hk:T.kind=12):1<=T.a/\T.a<=4:=by
 have:=h.2.2.1;unfold Numbered at this;omega
theorem holds_iff {T:Ac} (hk: ∀k∈T.ks,1<=k.kind/\k.kind<=14):T.holdsB=true↔ ∀k∈T.ks,kidBadD T.kind k.kind=false:=by
 unfold holdsB;rw [Bool.not_eq_true',List.any_eq_false]
 have e: ∀k∈T.ks,(¬kidBad T.kind k.kind=true↔kidBadD T.kind k.kind=false):=λk hkm=>by
  have:=hk k hkm;rw [Bool.not_eq_true];unfold kidBad kidBadD;rw [decide_eq_false_iff_not]
  by_cases h1:k.kind=13∨k.kind=14
  ·rw [if_pos h1];simp;omega
  rw [if_neg h1]
  by_cases h2:k.kind=12
  ·rw [if_pos h2]
   by_cases h3:T.kind=13
   ·simp [h3];omega
   simp [h3];omega
  rw [if_neg h2];rw [show(k.kind==10)=decide(k.kind=10)from rfl,show(T.kind==9)=decide(T.kind=9)from rfl]
  by_cases h3:k.kind=10
  ·by_cases h4:T.kind=9
   ·rw [decide_eq_true h3,decide_eq_true h4];exact⟨λ_=>by omega,λ_=>by decide⟩
   rw [decide_eq_true h3,decide_eq_false h4];exact⟨λh=>absurd h(by decide),λh=>absurd(by omega)h⟩
  by_cases h4:T.kind=9
  ·rw [decide_eq_false h3,decide_eq_true h4];exact⟨λh=>absurd h(by decide),λh=>absurd(by omega)h⟩
  rw [decide_eq_false h3,decide_eq_false h4];exact⟨λ_=>by omega,λ_=>by decide⟩
 exact⟨λh k hkm=>(e k hkm).1(h k hkm),λh k hkm=>(e k hkm).2(h k hkm)⟩
theorem linked_iff {T:Ac} (hk: ∀k∈T.ks,k.kind=12->1<=k.a/\k.a<=4):T.linkedB=true↔1<=T.ks.length/\T.LinkD:=by
 have hcover: ∀(h: ∀i(h:i<T.ks.length),kidD T.ks[i].kind T.ks[i].a T.ks[i].cs.length(inN T.ls i)(outN T.ls i)=true),∀i,i<T.ks.length->1<=inN T.ls i:=λh i hi=>by
  have h1:=h i hi;have h2:=hk T.ks[i](List.getElem_mem hi);unfold kidD at h1
  split at h1
  ·rename_i h12
   have h2:=h2 h12
   split at h1
   ·rw [Bool.and_eq_true,decide_eq_true_iff]at h1;omega
   split at h1
   ·rw [Bool.and_eq_true,decide_eq_true_iff]at h1;omega
   split at h1
   ·rw [Bool.and_eq_true,decide_eq_true_iff]at h1;omega
   omega
  rw [Bool.and_eq_true,decide_eq_true_iff]at h1;omega
 have cvt: ∀(f:Int×Int->Int)(k:Nat),(T.ls.countP λl=>decide(f l+1=((k+1:Nat):Int)))=T.ls.countP λl=>decide(f l=(k:Int)):=λf k=>by
  congr 1
  funext l
  by_cases e:f l=(k:Int)
  ·rw [decide_eq_true e,decide_eq_true(by omega)]
  rw [decide_eq_false e,decide_eq_false(by omega)]
 have cvo: ∀(f:Int×Int->Int),(T.ls.countP λl=>decide(f l+1=((0:Nat):Int)))=T.ls.countP λl=>decide(f l= -1):=λf=>by
  congr 1
  funext l
  by_cases e:f l= -1
  ·rw [decide_eq_true e,decide_eq_true(by omega)]
  rw [decide_eq_false e,decide_eq_false(by omega)]
 have j0:T.joinedAt 0=(decide(inN T.ls(-1)=1)&&decide(outN T.ls(-1)=1)):=by
  unfold joinedAt;rw [insL_at _ _ _(by omega),outsL_at _ _ _(by omega),cvo(λl=>l.2),cvo(λl=>l.1)];show joinedB 0 0 0((T.ls.countP λl=>decide(l.2= -1):Nat):Int)((T.ls.countP λl=>decide(l.1= -1):Nat):Int)=_;unfold joinedB inN outN;rw [if_neg(by decide)]
  congr 1<;>(rw [decide_eq_decide];omega)
 have j1: ∀i(h:i<T.ks.length),T.joinedAt(i+1)=kidD T.ks[i].kind T.ks[i].a T.ks[i].cs.length(inN T.ls i)(outN T.ls i):=λi hi=>by
  unfold joinedAt;rw [insL_at _ _ _(by omega),outsL_at _ _ _(by omega),cvt(λl=>l.2)i,cvt(λl=>l.1)i];have:T.around[i+1]? =some T.ks[i]:=by simp [around,hi]
  rw [this];show joinedB T.ks[i].kind T.ks[i].a T.ks[i].cs.length((inN T.ls i:Nat):Int)((outN T.ls i:Nat):Int)=_;unfold joinedB kidD
  by_cases h12:T.ks[i].kind=12
  ·have h2:=hk T.ks[i](List.getElem_mem hi)h12
   rw [if_pos h12,if_pos h12]
   by_cases a1:T.ks[i].a=1
   ·rw [if_pos a1,if_pos a1]
   rw [if_neg a1,if_neg a1]
   by_cases a3:T.ks[i].a=3
   ·rw [if_pos a3,if_pos a3]
   rw [if_neg a3,if_neg a3,if_pos(by omega)]
  rw [if_neg h12,if_neg h12]
 unfold linkedB LinkD;simp only [Bool.and_eq_true,decide_eq_true_iff,Bool.not_eq_true',decide_eq_false_iff_not]
 constructor
 ·rintro⟨⟨⟨⟨h1,h2⟩,h3⟩,h4⟩,h5⟩
  have h4:=List.all_eq_true.1 h4;have k0:=h4 0(List.mem_range.2(by omega));rw [j0,Bool.and_eq_true,decide_eq_true_iff,decide_eq_true_iff]at k0
  have k1: ∀i(h:i<T.ks.length),kidD T.ks[i].kind T.ks[i].a T.ks[i].cs.length(inN T.ls i)(outN T.ls i)=true:=λi hi=>by
   rw [<-j1 i hi];exact h4(i+1)(List.mem_range.2(by omega))
  have h6:=Dd.cover T.ks.length T.ls(hcover k1);have h7:=List.countP_le_length(p:=λl:Int×Int=>decide(0<=l.2/\l.2<(T.ks.length:Int)))(l:=T.ls);exact⟨by omega,h3,⟨k0.1,k0.2,h2,by omega⟩,k1,h5⟩
 rintro⟨h1,h3,⟨k0,k0',h2,h64⟩,k1,h5⟩;refine⟨⟨⟨⟨by omega,h2⟩,h3⟩,List.all_eq_true.2 λi hi=> ?_⟩,h5⟩;have hi:=List.mem_range.1 hi
 cases i with
 |zero=>rw [j0,k0,k0'];rfl
 |succ i=>rw [j1 i(by omega)];exact k1 i(by omega)
theorem same1_iff {S T:Ac} :Same1 S T↔S.kind=T.kind/\S.node=T.node/\S.a=T.a/\S.b=T.b/\S.t=T.t/\S.cs=T.cs/\S.ls=T.ls/\S.ns=T.ns/\S.fs=T.fs:=Iff.rfl
theorem form_iff {T:Ac} (hk: ∀k∈T.ks,(1<=k.kind/\k.kind<=14)/\(k.kind=12->1<=k.a/\k.a<=4)):T.FormD↔T.Formed:=by
 have hh:=holds_iff(T:=T)λk hkm=>(hk k hkm).1;have hl:=linked_iff(T:=T)λk hkm=>(hk k hkm).2;have z:T.t= .mk 0 0 []↔Nt.zeroB T.t=true:=Nt.zero_iff T.t;unfold FormD;rw [<-hh]
 by_cases hr:T.kind<1∨14<T.kind
 ·constructor
  ·rintro⟨_,_,h,_⟩;have:=numbered_kind h;omega
  intro h;have:=formed_kind h;omega
 have hkk:T.kind=1∨T.kind=2∨T.kind=3∨T.kind=4∨T.kind=5∨T.kind=6∨T.kind=7∨T.kind=8∨T.kind=9∨T.kind=10∨T.kind=11∨T.kind=12∨T.kind=13∨T.kind=14:=by omega
 obtain⟨H,hH⟩: ∃H,T.holdsB=H:=⟨_,rfl⟩;obtain⟨L,hL⟩: ∃L,T.linkedB=L:=⟨_,rfl⟩;obtain⟨D,hD⟩: ∃D,T.LinkD=D:=⟨_,rfl⟩;rw [hL,hD]at hl;rw [hH];clear hh hk
 rcases hkk with hK|hK|hK|hK|hK|hK|hK|hK|hK|hK|hK|hK|hK|hK
 ·rw [formed_1 hK,hH]
  unfold Bare Numbered Conds;rw [hD];clear hH hL hD hr;obtain⟨K,N,A,B,t,cs,ks,ls,ns,fs⟩:=T;obtain rfl:K=1:=hK;simp [hasNodeB,hasA,hasB',hasC,hasK,rest,zeroOf,same1_iff,kind,node,a,b,Ac.t,Ac.cs,Ac.ks,Ac.ls,Ac.ns,Ac.fs]at z hl⊢
  grind
 ·rw [formed_2 hK,hH]
  unfold Bare Numbered Conds;rw [hD];clear hH hL hD hr;obtain⟨K,N,A,B,t,cs,ks,ls,ns,fs⟩:=T;obtain rfl:K=2:=hK;simp [hasNodeB,hasA,hasB',hasC,hasK,rest,zeroOf,same1_iff,kind,node,a,b,Ac.t,Ac.cs,Ac.ks,Ac.ls,Ac.ns,Ac.fs]at z hl⊢
  grind
 ·rw [formed_3 hK,hH]
  unfold Bare Numbered Conds;rw [hD];clear hH hL hD hr;obtain⟨K,N,A,B,t,cs,ks,ls,ns,fs⟩:=T;obtain rfl:K=3:=hK;simp [hasNodeB,hasA,hasB',hasC,hasK,rest,zeroOf,same1_iff,kind,node,a,b,Ac.t,Ac.cs,Ac.ks,Ac.ls,Ac.ns,Ac.fs]at z hl⊢
  grind
 ·rw [formed_4 hK,hH]
  unfold Bare Numbered Conds;rw [hD];clear hH hL hD hr;obtain⟨K,N,A,B,t,cs,ks,ls,ns,fs⟩:=T;obtain rfl:K=4:=hK;simp [hasNodeB,hasA,hasB',hasC,hasK,rest,zeroOf,same1_iff,kind,node,a,b,Ac.t,Ac.cs,Ac.ks,Ac.ls,Ac.ns,Ac.fs]at z hl⊢
  grind
 ·rw [formed_5 hK,hH]
  unfold Bare Numbered Conds;rw [hD];clear hH hL hD hr;obtain⟨K,N,A,B,t,cs,ks,ls,ns,fs⟩:=T;obtain rfl:K=5:=hK;simp [hasNodeB,hasA,hasB',hasC,hasK,rest,zeroOf,same1_iff,kind,node,a,b,Ac.t,Ac.cs,Ac.ks,Ac.ls,Ac.ns,Ac.fs]at z hl⊢
  grind
 ·rw [formed_6 hK,hH]
  unfold Bare Numbered Conds;rw [hD];clear hH hL hD hr;obtain⟨K,N,A,B,t,cs,ks,ls,ns,fs⟩:=T;obtain rfl:K=6:=hK;simp [hasNodeB,hasA,hasB',hasC,hasK,rest,zeroOf,same1_iff,kind,node,a,b,Ac.t,Ac.cs,Ac.ks,Ac.ls,Ac.ns,Ac.fs]at z hl⊢
  grind
 ·rw [formed_7 hK,hH]
  unfold Bare Numbered Conds;rw [hD];clear hH hL hD hr;obtain⟨K,N,A,B,t,cs,ks,ls,ns,fs⟩:=T;obtain rfl:K=7:=hK;simp [hasNodeB,hasA,hasB',hasC,hasK,rest,zeroOf,same1_iff,kind,node,a,b,Ac.t,Ac.cs,Ac.ks,Ac.ls,Ac.ns,Ac.fs]at z hl⊢
  grind
 ·rw [formed_8 hK,hH]
  unfold Bare Numbered Conds;rw [hD];clear hH hL hD hr;obtain⟨K,N,A,B,t,cs,ks,ls,ns,fs⟩:=T;obtain rfl:K=8:=hK;simp [hasNodeB,hasA,hasB',hasC,hasK,rest,zeroOf,same1_iff,kind,node,a,b,Ac.t,Ac.cs,Ac.ks,Ac.ls,Ac.ns,Ac.fs]at z hl⊢
  grind
 ·rw [formed_9 hK,hH]
  unfold Bare Numbered Conds;rw [hD];clear hH hL hD hr;obtain⟨K,N,A,B,t,cs,ks,ls,ns,fs⟩:=T;obtain rfl:K=9:=hK;simp [hasNodeB,hasA,hasB',hasC,hasK,rest,zeroOf,same1_iff,kind,node,a,b,Ac.t,Ac.cs,Ac.ks,Ac.ls,Ac.ns,Ac.fs]at z hl⊢
  grind
 ·rw [formed_10 hK,hH]
  unfold Bare Numbered Conds;rw [hD];clear hH hL hD hr;obtain⟨K,N,A,B,t,cs,ks,ls,ns,fs⟩:=T;obtain rfl:K=10:=hK;simp [hasNodeB,hasA,hasB',hasC,hasK,rest,zeroOf,same1_iff,kind,node,a,b,Ac.t,Ac.cs,Ac.ks,Ac.ls,Ac.ns,Ac.fs]at z hl⊢
  grind
 ·rw [formed_11 hK,hH]
  unfold Bare Numbered Conds;rw [hD];clear hH hL hD hr;obtain⟨K,N,A,B,t,cs,ks,ls,ns,fs⟩:=T;obtain rfl:K=11:=hK;simp [hasNodeB,hasA,hasB',hasC,hasK,rest,zeroOf,same1_iff,kind,node,a,b,Ac.t,Ac.cs,Ac.ks,Ac.ls,Ac.ns,Ac.fs]at z hl⊢
  grind
 ·by_cases ha:T.a=3
  ·rw [formed_12a hK ha,hH]
   unfold Bare Numbered Conds;rw [hD];clear hH hL hD hr;obtain⟨K,N,A,B,t,cs,ks,ls,ns,fs⟩:=T;obtain rfl:K=12:=hK;obtain rfl:A=3:=ha;simp [hasNodeB,hasA,hasB',hasC,hasK,rest,zeroOf,same1_iff,kind,node,a,b,Ac.t,Ac.cs,Ac.ks,Ac.ls,Ac.ns,Ac.fs]at z hl⊢
   grind
  rw [formed_12b hK ha,hH];unfold Bare Numbered Conds;rw [hD];clear hH hL hD hr;obtain⟨K,N,A,B,t,cs,ks,ls,ns,fs⟩:=T;obtain rfl:K=12:=hK;replace ha: ¬A=3:=ha;simp [hasNodeB,hasA,hasB',hasC,hasK,rest,zeroOf,same1_iff,kind,node,a,b,Ac.t,Ac.cs,Ac.ks,Ac.ls,Ac.ns,Ac.fs,ha]at z hl⊢
  grind
 ·rw [formed_13 hK,hH,hL]
  unfold Bare Numbered Conds;rw [hD];clear hH hL hD hr;obtain⟨K,N,A,B,t,cs,ks,ls,ns,fs⟩:=T;obtain rfl:K=13:=hK;simp [hasNodeB,hasA,hasB',hasC,hasK,rest,zeroOf,same1_iff,kind,node,a,b,Ac.t,Ac.cs,Ac.ks,Ac.ls,Ac.ns,Ac.fs]at z hl⊢
  grind
 rw [formed_14 hK,hH];unfold Bare Numbered Conds;rw [hD];clear hH hL hD hr;obtain⟨K,N,A,B,t,cs,ks,ls,ns,fs⟩:=T;obtain rfl:K=14:=hK;simp [hasNodeB,hasA,hasB',hasC,hasK,rest,zeroOf,same1_iff,kind,node,a,b,Ac.t,Ac.cs,Ac.ks,Ac.ls,Ac.ns,Ac.fs]at z hl⊢
 grind
end Ac
end Go.Proofs
