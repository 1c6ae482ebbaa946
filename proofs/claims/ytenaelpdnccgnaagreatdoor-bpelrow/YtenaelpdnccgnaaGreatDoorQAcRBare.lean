import Derived.Test.YtenaelpdnccgnaaGreatDoorQAcFormM
set_option maxRecDepth 100000
set_option maxHeartbeats 32000000
namespace Go.Proofs
open Go.RowKit Go.Shelf
theorem Tryz.r16bare_lit (k nd a b op nu : Int) (ta ca ka la na fa : Option Addr) (tn tc nc cc nk kc nl lc nn ncap nf fcap : Nat) (s : ByteArray) (z bn ba bb bt bc bk bl bp : Bool) (w : World)
    (hb : (bn = true /\ ba = true /\ bb = false /\ bt = false /\ bc = false /\ bk = false /\ bl = false /\ bp = false) ∨ (bn = true /\ ba = true /\ bb = false /\ bt = true /\ bc = false /\ bk = false /\ bl = false /\ bp = false) ∨ (bn = true /\ ba = false /\ bb = false /\ bt = false /\ bc = false /\ bk = false /\ bl = false /\ bp = false) ∨ (bn = false /\ ba = false /\ bb = false /\ bt = false /\ bc = false /\ bk = true /\ bl = false /\ bp = false) ∨ (bn = true /\ ba = true /\ bb = false /\ bt = false /\ bc = true /\ bk = true /\ bl = false /\ bp = false) ∨ (bn = true /\ ba = false /\ bb = false /\ bt = false /\ bc = false /\ bk = true /\ bl = false /\ bp = false) ∨ (bn = true /\ ba = true /\ bb = false /\ bt = false /\ bc = false /\ bk = true /\ bl = false /\ bp = false) ∨ (bn = true /\ ba = true /\ bb = true /\ bt = false /\ bc = true /\ bk = true /\ bl = false /\ bp = false) ∨ (bn = true /\ ba = true /\ bb = true /\ bt = false /\ bc = true /\ bk = false /\ bl = false /\ bp = false) ∨ (bn = false /\ ba = false /\ bb = false /\ bt = false /\ bc = false /\ bk = true /\ bl = true /\ bp = false) ∨ (bn = false /\ ba = false /\ bb = false /\ bt = false /\ bc = false /\ bk = false /\ bl = false /\ bp = true) ∨ (bn = false /\ ba = false /\ bb = false /\ bt = false /\ bc = false /\ bk = false /\ bl = false /\ bp = false))
    (CH0 : ∀ W, Below w.heap.size w W -> Calls Tryz.prog 54 #[.agg #[.int .i64 k, .int .i64 nd, .int .i64 a, .int .i64 b, .int .i64 op, .int .i64 nu, .slice ta tn tc, .slice ca nc cc, .slice ka nk kc, .slice la nl lc, .slice na nn ncap, .slice fa nf fcap]] W λe w' => e = .returned (.string s) /\ Below W.heap.size W w')
    (Cn0 : ∀ W, Calls Tryz.prog 53 #[.string s, .int .u8 110] W λe w' => e = .returned (.bool bn) /\ w' = W)
    (Ca0 : ∀ W, Calls Tryz.prog 53 #[.string s, .int .u8 97] W λe w' => e = .returned (.bool ba) /\ w' = W)
    (Cb0 : ∀ W, Calls Tryz.prog 53 #[.string s, .int .u8 98] W λe w' => e = .returned (.bool bb) /\ w' = W)
    (Ct0 : ∀ W, Calls Tryz.prog 53 #[.string s, .int .u8 116] W λe w' => e = .returned (.bool bt) /\ w' = W)
    (Cc0 : ∀ W, Calls Tryz.prog 53 #[.string s, .int .u8 99] W λe w' => e = .returned (.bool bc) /\ w' = W)
    (Ck0 : ∀ W, Calls Tryz.prog 53 #[.string s, .int .u8 107] W λe w' => e = .returned (.bool bk) /\ w' = W)
    (Cl0 : ∀ W, Calls Tryz.prog 53 #[.string s, .int .u8 108] W λe w' => e = .returned (.bool bl) /\ w' = W)
    (Cp0 : ∀ W, Calls Tryz.prog 53 #[.string s, .int .u8 112] W λe w' => e = .returned (.bool bp) /\ w' = W)
    (CZ0 : ∀ W, Below w.heap.size w W -> Calls Tryz.prog 75 #[.agg #[.int .i64 op, .int .i64 nu, .slice ta tn tc]] W λe w' => e = .returned (.bool z) /\ Below W.heap.size W w') :
    Calls Tryz.prog 51 #[.agg #[.int .i64 k, .int .i64 nd, .int .i64 a, .int .i64 b, .int .i64 op, .int .i64 nu, .slice ta tn tc, .slice ca nc cc, .slice ka nk kc, .slice la nl lc, .slice na nn ncap, .slice fa nf fcap]] w λe w' => Ak.Told ((bn = false -> nd = 0) /\ (ba = false -> a = 0) /\ (bb = false -> b = 0) /\ (bt = false -> z = true) /\ (bc = false -> nc = 0) /\ (bk = false -> nk = 0) /\ (bl = false -> nl = 0) /\ (bp = false -> nn = 0 /\ nf = 0)) e /\ Below w.heap.size w w' := by
  obtain ⟨Cn, hCn⟩ : ∃ C : Prop, (bn = false -> nd = 0) = C := ⟨_, rfl⟩;have Dn : Hid (Cn = (bn = false -> nd = 0)) := hCn.symm;obtain ⟨Ca, hCa⟩ : ∃ C : Prop, (ba = false -> a = 0) = C := ⟨_, rfl⟩;have Da : Hid (Ca = (ba = false -> a = 0)) := hCa.symm;obtain ⟨Cb, hCb⟩ : ∃ C : Prop, (bb = false -> b = 0) = C := ⟨_, rfl⟩;have Db : Hid (Cb = (bb = false -> b = 0)) := hCb.symm;obtain ⟨Ct, hCt⟩ : ∃ C : Prop, (bt = false -> z = true) = C := ⟨_, rfl⟩;have Dt : Hid (Ct = (bt = false -> z = true)) := hCt.symm;obtain ⟨Cc, hCc⟩ : ∃ C : Prop, (bc = false -> nc = 0) = C := ⟨_, rfl⟩;have Dc : Hid (Cc = (bc = false -> nc = 0)) := hCc.symm;obtain ⟨Ck, hCk⟩ : ∃ C : Prop, (bk = false -> nk = 0) = C := ⟨_, rfl⟩;have Dk : Hid (Ck = (bk = false -> nk = 0)) := hCk.symm;obtain ⟨Cl, hCl⟩ : ∃ C : Prop, (bl = false -> nl = 0) = C := ⟨_, rfl⟩;have Dl : Hid (Cl = (bl = false -> nl = 0)) := hCl.symm;obtain ⟨Cp, hCp⟩ : ∃ C : Prop, (bp = false -> nn = 0 /\ nf = 0) = C := ⟨_, rfl⟩;have Dp : Hid (Cp = (bp = false -> nn = 0 /\ nf = 0)) := hCp.symm;rw [hCn, hCa, hCb, hCt, hCc, hCk, hCl, hCp];obtain ⟨P, hP⟩ : ∃ P : Prop, (Cn /\ Ca /\ Cb /\ Ct /\ Cc /\ Ck /\ Cl /\ Cp) = P := ⟨_, rfl⟩;rw [hP];have HP : Hid (P ↔ (Cn /\ Ca /\ Cb /\ Ct /\ Cc /\ Ck /\ Cl /\ Cp)) := by show _ ↔ _; rw [<- hP]
  have CH : Hid _ := CH0;have CZ : Hid _ := CZ0;obtain ⟨gn, hgn⟩ : ∃ g, g = bn := ⟨_, rfl⟩;have Hn : Hid (gn = bn) := hgn;have Cn' : Hid _ := Cn0;obtain ⟨ga, hga⟩ : ∃ g, g = ba := ⟨_, rfl⟩;have Ha : Hid (ga = ba) := hga;have Ca' : Hid _ := Ca0;obtain ⟨gb, hgb⟩ : ∃ g, g = bb := ⟨_, rfl⟩;have Hb : Hid (gb = bb) := hgb;have Cb' : Hid _ := Cb0;obtain ⟨gt, hgt⟩ : ∃ g, g = bt := ⟨_, rfl⟩;have Ht : Hid (gt = bt) := hgt;have Ct' : Hid _ := Ct0;obtain ⟨gc, hgc⟩ : ∃ g, g = bc := ⟨_, rfl⟩;have Hc : Hid (gc = bc) := hgc;have Cc' : Hid _ := Cc0;obtain ⟨gk, hgk⟩ : ∃ g, g = bk := ⟨_, rfl⟩;have Hk : Hid (gk = bk) := hgk;have Ck' : Hid _ := Ck0;obtain ⟨gl, hgl⟩ : ∃ g, g = bl := ⟨_, rfl⟩;have Hl : Hid (gl = bl) := hgl;have Cl' : Hid _ := Cl0;obtain ⟨gp, hgp⟩ : ∃ g, g = bp := ⟨_, rfl⟩;have Hp : Hid (gp = bp) := hgp;have Cp' : Hid _ := Cp0;clear hP CH0 CZ0 hCn hgn Cn0 hCa hga Ca0 hCb hgb Cb0 hCt hgt Ct0 hCc hgc Cc0 hCk hgk Ck0 hCl hgl Cl0 hCp hgp Cp0;obtain ⟨w1, hw1⟩ : ∃ x, w.alloc (.cells #[.int .i64 k, .int .i64 nd, .int .i64 a, .int .i64 b, .int .i64 op, .int .i64 nu, .slice ta tn tc, .slice ca nc cc, .slice ka nk kc, .slice la nl lc, .slice na nn ncap, .slice fa nf fcap] 44) = x := ⟨_, rfl⟩;have B1 : Hid (Below w.heap.size w w1) := by show Below _ _ _; rw [<- hw1]; exact (Below.refl _ w).alloc (Nat.le_refl _) _
  have N1 : w1.heap[w.heap.size]? = some (.cells #[.int .i64 k, .int .i64 nd, .int .i64 a, .int .i64 b, .int .i64 op, .int .i64 nu, .slice ta tn tc, .slice ca nc cc, .slice ka nk kc, .slice la nl lc, .slice na nn ncap, .slice fa nf fcap] 44 (0, 0)) := by rw [<- hw1]; exact heap_alloc_new w _
  have HCELL : Hid (∀ W, Below w1.heap.size w1 W -> W.cell? ⟨w.heap.size, 0, none⟩ = some (.int .i64 k) /\ W.cell? ⟨w.heap.size, 1, none⟩ = some (.int .i64 nd) /\ W.cell? ⟨w.heap.size, 2, none⟩ = some (.int .i64 a) /\ W.cell? ⟨w.heap.size, 3, none⟩ = some (.int .i64 b) /\ W.cell? ⟨w.heap.size, 4, none⟩ = some (.int .i64 op) /\ W.cell? ⟨w.heap.size, 5, none⟩ = some (.int .i64 nu) /\ W.cell? ⟨w.heap.size, 6, none⟩ = some (.slice ta tn tc) /\ W.cell? ⟨w.heap.size, 7, none⟩ = some (.slice ca nc cc) /\ W.cell? ⟨w.heap.size, 8, none⟩ = some (.slice ka nk kc) /\ W.cell? ⟨w.heap.size, 9, none⟩ = some (.slice la nl lc) /\ W.cell? ⟨w.heap.size, 10, none⟩ = some (.slice na nn ncap) /\ W.cell? ⟨w.heap.size, 11, none⟩ = some (.slice fa nf fcap)) := λW hb => by
    have h := (hb.block _ (Array.getElem?_eq_some_iff.1 N1).1).trans N1;simp [World.cell?, h]
  have ha := Tryz.underlying44;have ia : (Tryz.prog.info? 44).map (·.size) = some (#[.int .i64 k, .int .i64 nd, .int .i64 a, .int .i64 b, .int .i64 op, .int .i64 nu, .slice ta tn tc, .slice ca nc cc, .slice ka nk kc, .slice la nl lc, .slice na nn ncap, .slice fa nf fcap] : Array Value).size := Ak.rinfo;have H1 : Hid _ := hw1;clear hw1
  rcases hb with ⟨rfl, rfl, rfl, rfl, rfl, rfl, rfl, rfl⟩ | ⟨rfl, rfl, rfl, rfl, rfl, rfl, rfl, rfl⟩ | ⟨rfl, rfl, rfl, rfl, rfl, rfl, rfl, rfl⟩ | ⟨rfl, rfl, rfl, rfl, rfl, rfl, rfl, rfl⟩ | ⟨rfl, rfl, rfl, rfl, rfl, rfl, rfl, rfl⟩ | ⟨rfl, rfl, rfl, rfl, rfl, rfl, rfl, rfl⟩ | ⟨rfl, rfl, rfl, rfl, rfl, rfl, rfl, rfl⟩ | ⟨rfl, rfl, rfl, rfl, rfl, rfl, rfl, rfl⟩ | ⟨rfl, rfl, rfl, rfl, rfl, rfl, rfl, rfl⟩ | ⟨rfl, rfl, rfl, rfl, rfl, rfl, rfl, rfl⟩ | ⟨rfl, rfl, rfl, rfl, rfl, rfl, rfl, rfl⟩ | ⟨rfl, rfl, rfl, rfl, rfl, rfl, rfl, rfl⟩
  all_goals (
    go_enter Tryz.func51, Tryz.ntmps51
    go_upto_region 1 with fail
    rw [H1.out];clear H1
    go_wp2_with (refine wpList_load_row rfl 44 _ rfl _ rfl 44 _ (0, 0) _ N1 ha rfl ia ?_)
    refine Calls.mono (CH.out _ B1.out) ?_;rintro e W2 ⟨rfl, b2⟩;have BB : Hid (Below w1.heap.size w1 W2) := b2;have B2 : Hid (Below w.heap.size w W2) := B1.out.trans (b2.mono B1.out.size);clear N1 b2 CH B1;have B1 := B2;clear B2;obtain ⟨p0, p1, p2, p3, p4, p5, p6, p7, p8, p9, p10, p11⟩ := HCELL.out W2 BB.out
    go_wp2_with fail
    refine Calls.mono (Cn'.out _) ?_;rintro e Wq ⟨rfl, hWq⟩;obtain rfl := hWq.symm
    first
      | (have hq : Hid (gn = false) := Hn
         clear hq
         by_cases q : nd = 0
         rotate_left
         · have f : (nd != 0) = true := by simpa using q
           have HQ : Hid (¬ P) := λh => by
             have h1 := (HP.out.1 h).1;rw [Dn.out] at h1;exact q (h1 (by first | rfl | trivial))
           clear q;go_wp2;go_ret;exact ⟨Ak.Told.no HQ.out, B1.out⟩
         have f : (nd != 0) = false := by simp [q]
         have En : Hid Cn := by show Cn; rw [Dn.out]; exact λ_ => q
         clear q)
      | (have En : Hid Cn := by show Cn; rw [Dn.out]; exact λh => by cases h)
    go_wp2_with fail
    refine Calls.mono (Ca'.out _) ?_;rintro e Wq ⟨rfl, hWq⟩;obtain rfl := hWq.symm
    first
      | (have hq : Hid (ga = false) := Ha
         clear hq
         by_cases q : a = 0
         rotate_left
         · have f : (a != 0) = true := by simpa using q
           have HQ : Hid (¬ P) := λh => by
             have h1 := (HP.out.1 h).2.1;rw [Da.out] at h1;exact q (h1 (by first | rfl | trivial))
           clear q;go_wp2;go_ret;exact ⟨Ak.Told.no HQ.out, B1.out⟩
         have f : (a != 0) = false := by simp [q]
         have Ea : Hid Ca := by show Ca; rw [Da.out]; exact λ_ => q
         clear q)
      | (have Ea : Hid Ca := by show Ca; rw [Da.out]; exact λh => by cases h)
    go_wp2_with fail
    refine Calls.mono (Cb'.out _) ?_;rintro e Wq ⟨rfl, hWq⟩;obtain rfl := hWq.symm
    first
      | (have hq : Hid (gb = false) := Hb
         clear hq
         by_cases q : b = 0
         rotate_left
         · have f : (b != 0) = true := by simpa using q
           have HQ : Hid (¬ P) := λh => by
             have h1 := (HP.out.1 h).2.2.1;rw [Db.out] at h1;exact q (h1 (by first | rfl | trivial))
           clear q;go_wp2;go_ret;exact ⟨Ak.Told.no HQ.out, B1.out⟩
         have f : (b != 0) = false := by simp [q]
         have Eb : Hid Cb := by show Cb; rw [Db.out]; exact λ_ => q
         clear q)
      | (have Eb : Hid Cb := by show Cb; rw [Db.out]; exact λh => by cases h)
    go_wp2_with fail
    refine Calls.mono (Ct'.out _) ?_;rintro e Wq ⟨rfl, hWq⟩;obtain rfl := hWq.symm
    first
      | (have hq : Hid (gt = false) := Ht
         clear hq
         go_wp2_with fail
         refine Calls.mono (CZ.out _ B1.out) ?_;rintro e W3 ⟨rfl, b3⟩;have BB3 : Hid (Below w1.heap.size w1 W3) := BB.out.trans (b3.mono BB.out.size);have B3 : Hid (Below w.heap.size w W3) := B1.out.trans (b3.mono B1.out.size);clear b3 B1 BB p0 p1 p2 p3 p4 p5 p6 p7 p8 p9 p10 p11;have B1 := B3;clear B3;obtain ⟨p0, p1, p2, p3, p4, p5, p6, p7, p8, p9, p10, p11⟩ := HCELL.out W3 BB3.out
         by_cases q : z = true
         rotate_left
         · have q' : z = false := by simpa using q
           have HQ : Hid (¬ P) := λh => by
             have h1 := (HP.out.1 h).2.2.2.1;rw [Dt.out] at h1;exact q (h1 (by first | rfl | trivial))
           subst q';clear q;go_wp2;go_ret;exact ⟨Ak.Told.no HQ.out, B1.out⟩
         have Et : Hid Ct := by show Ct; rw [Dt.out]; exact λ_ => q
         subst q)
      | (have Et : Hid Ct := by show Ct; rw [Dt.out]; exact λh => by cases h)
    go_wp2_with fail
    refine Calls.mono (Cc'.out _) ?_;rintro e Wq ⟨rfl, hWq⟩;obtain rfl := hWq.symm
    first
      | (have hq : Hid (gc = false) := Hc
         clear hq
         by_cases q : nc = 0
         rotate_left
         · have f : ((nc : Int) != 0) = true := by simp; omega
           have HQ : Hid (¬ P) := λh => by
             have h1 := (HP.out.1 h).2.2.2.2.1;rw [Dc.out] at h1;exact q (h1 (by first | rfl | trivial))
           clear q;go_wp2;go_ret;exact ⟨Ak.Told.no HQ.out, B1.out⟩
         have f : ((nc : Int) != 0) = false := by simp [q]
         have Ec : Hid Cc := by show Cc; rw [Dc.out]; exact λ_ => q
         clear q)
      | (have Ec : Hid Cc := by show Cc; rw [Dc.out]; exact λh => by cases h)
    go_wp2_with fail
    refine Calls.mono (Ck'.out _) ?_;rintro e Wq ⟨rfl, hWq⟩;obtain rfl := hWq.symm
    first
      | (have hq : Hid (gk = false) := Hk
         clear hq
         by_cases q : nk = 0
         rotate_left
         · have f : ((nk : Int) != 0) = true := by simp; omega
           have HQ : Hid (¬ P) := λh => by
             have h1 := (HP.out.1 h).2.2.2.2.2.1;rw [Dk.out] at h1;exact q (h1 (by first | rfl | trivial))
           clear q;go_wp2;go_ret;exact ⟨Ak.Told.no HQ.out, B1.out⟩
         have f : ((nk : Int) != 0) = false := by simp [q]
         have Ek : Hid Ck := by show Ck; rw [Dk.out]; exact λ_ => q
         clear q)
      | (have Ek : Hid Ck := by show Ck; rw [Dk.out]; exact λh => by cases h)
    go_wp2_with fail
    refine Calls.mono (Cl'.out _) ?_;rintro e Wq ⟨rfl, hWq⟩;obtain rfl := hWq.symm
    first
      | (have hq : Hid (gl = false) := Hl
         clear hq
         by_cases q : nl = 0
         rotate_left
         · have f : ((nl : Int) != 0) = true := by simp; omega
           have HQ : Hid (¬ P) := λh => by
             have h1 := (HP.out.1 h).2.2.2.2.2.2.1;rw [Dl.out] at h1;exact q (h1 (by first | rfl | trivial))
           clear q;go_wp2;go_ret;exact ⟨Ak.Told.no HQ.out, B1.out⟩
         have f : ((nl : Int) != 0) = false := by simp [q]
         have El : Hid Cl := by show Cl; rw [Dl.out]; exact λ_ => q
         clear q)
      | (have El : Hid Cl := by show Cl; rw [Dl.out]; exact λh => by cases h)
    go_wp2_with fail
    refine Calls.mono (Cp'.out _) ?_;rintro e Wq ⟨rfl, hWq⟩;obtain rfl := hWq.symm
    first
      | (have hq : Hid (gp = true) := Hp
         clear hq;have Ep : Hid Cp := by show Cp; rw [Dp.out]; exact λh => by cases h
         go_wp2;go_ret
         exact ⟨Ak.Told.yes (HP.out.2 ⟨En.out, Ea.out, Eb.out, Et.out, Ec.out, Ek.out, El.out, Ep.out⟩), B1.out⟩)
      | (by_cases q : nn = 0
         · have f : ((nn : Int) == 0) = true := by simp [q]
           by_cases q2 : nf = 0
           · have f2 : ((nf : Int) == 0) = true := by simp [q2]
             have Ep : Hid Cp := by show Cp; rw [Dp.out]; exact λ_ => ⟨q, q2⟩
             clear q q2;go_wp2;go_ret;exact ⟨Ak.Told.yes (HP.out.2 ⟨En.out, Ea.out, Eb.out, Et.out, Ec.out, Ek.out, El.out, Ep.out⟩), B1.out⟩
           have f2 : ((nf : Int) == 0) = false := by simp; omega
           have HQ : Hid (¬ P) := λh => by
             have h1 := (HP.out.1 h).2.2.2.2.2.2.2;rw [Dp.out] at h1;exact q2 (h1 (by first | rfl | trivial)).2
           clear q q2;go_wp2;go_ret;exact ⟨Ak.Told.no HQ.out, B1.out⟩
         have f : ((nn : Int) == 0) = false := by simp; omega
         have HQ : Hid (¬ P) := λh => by
           have h1 := (HP.out.1 h).2.2.2.2.2.2.2;rw [Dp.out] at h1;exact q (h1 (by first | rfl | trivial)).1
         clear q;go_wp2;go_ret
         exact ⟨Ak.Told.no HQ.out, B1.out⟩))
end Go.Proofs
