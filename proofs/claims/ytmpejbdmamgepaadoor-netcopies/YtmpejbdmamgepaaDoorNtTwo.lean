/-
  Rule 2: conditionRight, wrongFlows.
-/
import Derived.Test.YtmpejbdmamgepaaDoorNtCount
import Derived.Test.YtmpejbdmamgepaaDoorNtIns
namespace Go.Proofs
open Go.RowKit Go.Shelf

set_option maxRecDepth 20000 in
set_option maxHeartbeats 4000000 in
theorem Tryd.condRight_any (ch els : Bool) (fr tt op num : Int) (sa : Option Addr) (n cap : Nat) (ob zb : Bool) (w : World)
    (hO : ∀ W, Below w.heap.size w W → Calls Tryd.prog 62 #[.int .i64 2, .agg #[.int .i64 op, .int .i64 num, .slice sa n cap]] W fun e w' => e = .returned (.bool ob) ∧ Below W.heap.size W w')
    (hZ : ∀ W, Calls Tryd.prog 63 #[.agg #[.int .i64 op, .int .i64 num, .slice sa n cap]] W fun e w' => e = .returned (.bool zb) ∧ Below W.heap.size W w') :
    Calls Tryd.prog 56 #[.agg #[.int .i64 fr, .int .i64 tt, .bool els, .int .i64 op, .int .i64 num, .slice sa n cap], .bool ch] w fun e w' => e = .returned (.bool (if ch = true ∧ els = false then ob else (ch == els) && zb)) ∧ Below w.heap.size w w' := by
  have A0 : Below w.heap.size w (w.alloc (.cells #[.int .i64 fr, .int .i64 tt, .bool els, .int .i64 op, .int .i64 num, .slice sa n cap] 47)) := (Below.refl _ w).alloc (Nat.le_refl _) _
  have HO : Hid _ := hO _ A0
  have HZ : Hid _ := hZ
  have HA : Hid _ := A0
  clear hO hZ A0
  cases ch <;> cases els
  case true.false =>
    go_enter Tryd.func56, Tryd.ntmps56
    go_wp2_with fail
    refine Calls.mono HO.out ?_
    rintro e W ⟨rfl, hb⟩
    have B2 : Hid (Below w.heap.size w W) := HA.out.trans (hb.mono HA.out.size)
    clear hb HO HZ
    go_wp2
    go_ret
    exact ⟨Tk.ret_bool (by simp), B2.out⟩
  case false.true =>
    go_enter Tryd.func56, Tryd.ntmps56
    go_wp2
    go_ret
    exact ⟨Tk.ret_bool (by simp), HA.out⟩
  all_goals
    go_enter Tryd.func56, Tryd.ntmps56
    go_wp2_with fail
    refine Calls.mono (HZ.out _) ?_
    rintro e W ⟨rfl, hb⟩
    have B2 : Hid (Below w.heap.size w W) := HA.out.trans (hb.mono HA.out.size)
    clear hb HO HZ
    go_wp2
    go_ret
    exact ⟨Tk.ret_bool (by simp), B2.out⟩

theorem Nt.enters_flows : ∀ args w, (callFunc 54 args).run Tryd.prog w = .ok (.enter 54 args) w := enters_of Tryd.func54 (by kernel_rfl) rfl

theorem Nt.flowBox {W : World} {b : Nat} {x y o m : Int} {z : Bool} {v : Value} (h : W.heap[b]? = some (.cells #[.int .i64 x, .int .i64 y, .bool z, .int .i64 o, .int .i64 m, v] 47 (0, 0))) :
    W.cell? ⟨b, 0, none⟩ = some (.int .i64 x) ∧ W.cell? ⟨b, 1, none⟩ = some (.int .i64 y) ∧ W.cell? ⟨b, 2, none⟩ = some (.bool z) ∧ W.cell? ⟨b, 3, none⟩ = some (.int .i64 o) ∧ W.cell? ⟨b, 4, none⟩ = some (.int .i64 m) ∧ W.cell? ⟨b, 5, none⟩ = some v :=
  ⟨by simp [World.cell?, h], by simp [World.cell?, h], by simp [World.cell?, h], by simp [World.cell?, h], by simp [World.cell?, h], by simp [World.cell?, h]⟩
theorem Nt.twoB_from {ns : List Nd} {fs : List Fl} {f : Fl} (h : Nt.isNodeB ns.length f.fr = false) : Nt.twoB ns fs f = false := by simp [Nt.twoB, h]
theorem Nt.twoB_to {ns : List Nd} {fs : List Fl} {f : Fl} (h : Nt.isNodeB ns.length f.to = false) : Nt.twoB ns fs f = false := by simp [Nt.twoB, h]
theorem Nt.twoB_same {ns : List Nd} {fs : List Fl} {f : Fl} (h : f.fr = f.to) : Nt.twoB ns fs f = false := by simp [Nt.twoB, h]
theorem Nt.twoB_rest {ns : List Nd} {fs : List Fl} {f : Fl} (h1 : Nt.isNodeB ns.length f.fr = true) (h2 : Nt.isNodeB ns.length f.to = true) (h : ¬ f.fr = f.to) : Nt.twoB ns fs f = Nt.condB f (Nt.chosenB ns fs f) := by simp [Nt.twoB, h1, h2, h]

/-- What wrongFlows' closure finds in memory. -/
structure Nt.Fc (bn bj : Nat) (an : Option Addr) (cn : Nat) (af : Option Addr) (cf : Nat) (ns : List Nd) (fs : List Fl) (cs : Array Value) (W : World) : Prop where
  box : W.heap[bn]? = some (.cells #[.slice an ns.length cn, .slice af fs.length cf] 25 (0, 0))
  jts : W.heap[bj]? = some (.cells cs 79 (0, 0))
theorem Nt.Fc.next {bn bj : Nat} {an : Option Addr} {cn : Nat} {af : Option Addr} {cf : Nat} {ns : List Nd} {fs : List Fl} {cs : Array Value} {W W' : World} (h : Nt.Fc bn bj an cn af cf ns fs cs W) (hb : Below W.heap.size W W') : Nt.Fc bn bj an cn af cf ns fs cs W' :=
  ⟨by rw [hb.block _ (Nt.lt_of h.box)]; exact h.box, by rw [hb.block _ (Nt.lt_of h.jts)]; exact h.jts⟩

set_option maxRecDepth 20000 in
set_option maxHeartbeats 8000000 in
theorem Tryd.flows1_any (k bn bj : Nat) (an : Option Addr) (cn : Nat) (af : Option Addr) (cf B d : Nat) (ns : List Nd) (fs : List Fl) (cs : Array Value) (w : World) (hH : Nt.Has w B d an af ns fs) (hB : B ≤ w.heap.size) (hk : k < fs.length) (hn : ns.length ≤ 24) (hO : Tk.Ops w)
    (hJ : Nt.Joints cs fs ns.length) (hC : Nt.Fc bn bj an cn af cf ns fs cs w) :
    Calls Tryd.prog 54 #[.int .i64 k, .pointer (some ⟨bn, 0, none⟩), .pointer (some ⟨bj, 0, none⟩)] w fun e w' => e = .returned (.bool (!Nt.twoB ns fs fs[k])) ∧ Below w.heap.size w w' := by
  obtain ⟨q, off, u, hqa, hq, h0, h1, h2, h3, h4, h5, h6⟩ := hH.fls k hk
  have hsz := hH.fsz _ (List.getElem_mem hk)
  have hfl := hH.flen
  obtain ⟨f, hf⟩ : ∃ f, fs[k] = f := ⟨_, rfl⟩
  rw [hf] at h0 h1 h2 h3 h4 h6 hsz ⊢
  obtain ⟨au, cu, rfl⟩ := h6.shape
  obtain ⟨W0, hW0⟩ : ∃ x, w.alloc (.cells #[.int .i64 f.fr, .int .i64 f.to, .bool f.els, .int .i64 f.c.op, .int .i64 f.c.num, .slice au f.c.ks.length cu] 47) = x := ⟨_, rfl⟩
  have A0 : Below w.heap.size w W0 := by rw [← hW0]; exact (Below.refl _ w).alloc (Nat.le_refl _) _
  have F0 : W0.heap[w.heap.size]? = some (.cells #[.int .i64 f.fr, .int .i64 f.to, .bool f.els, .int .i64 f.c.op, .int .i64 f.c.num, .slice au f.c.ks.length cu] 47 (0, 0)) := by rw [← hW0]; exact heap_alloc_new w _
  obtain ⟨p0, p1⟩ := Nt.box2 hC.box
  have hcr : ∀ ch W, Below w.heap.size w W → Calls Tryd.prog 56 #[.agg #[.int .i64 f.fr, .int .i64 f.to, .bool f.els, .int .i64 f.c.op, .int .i64 f.c.num, .slice au f.c.ks.length cu], .bool ch] W fun e w' => e = .returned (.bool (Nt.condB f ch)) ∧ Below W.heap.size W w' := fun ch W hb =>
    Tryd.condRight_any ch f.els f.fr f.to f.c.op f.c.num au f.c.ks.length cu (Nt.ofB f.c 2) (Nt.zeroB f.c) W (fun W' hb' => Tryd.isOf_any 2 d f.c (.slice au f.c.ks.length cu) W' (((h6.wider hB).below (hb.trans (hb'.mono hb.size))).wider (Nat.le_trans hb.size hb'.size)) (hO.below (hb.trans (hb'.mono hb.size)) hO.lt) hsz) (fun W' => Tryd.isZero_any f.c au cu W')
  have hnk : ∀ x : Nat, x < ns.length → ∃ g o2, an = some ⟨g, o2, none⟩ ∧ ∀ W, Below w.heap.size w W → W.cell? ⟨g, o2 + x * 5, none⟩ = some (.int .i64 (Nt.kindAt ns x)) := fun x hx => by
    obtain ⟨g, o2, u', e1, e2, e3, _⟩ := hH.nds x hx
    exact ⟨g, o2, e1, fun W hb => by rw [hb.cell (p := ⟨g, o2 + x * 5, none⟩) (by show g < _; omega), Nt.kindAt_get ns x hx]; exact e3⟩
  obtain ⟨nu, hnu⟩ : ∃ n, f.c.ks.length = n := ⟨_, rfl⟩
  obtain ⟨fr, hfr⟩ : ∃ x, f.fr = x := ⟨_, rfl⟩
  obtain ⟨tt, hto⟩ : ∃ x, f.to = x := ⟨_, rfl⟩
  obtain ⟨els, hel⟩ : ∃ x, f.els = x := ⟨_, rfl⟩
  obtain ⟨op, hop⟩ : ∃ x, f.c.op = x := ⟨_, rfl⟩
  obtain ⟨num, hnum⟩ : ∃ x, f.c.num = x := ⟨_, rfl⟩
  obtain ⟨n, hnn⟩ : ∃ n, ns.length = n := ⟨_, rfl⟩
  obtain ⟨m, hmm⟩ : ∃ n, fs.length = n := ⟨_, rfl⟩
  rw [hmm] at hfl
  rw [hfr, hto, hel, hop, hnum, hnu] at hW0 F0
  simp only [hfr, hto, hel, hop, hnum, hnu] at hcr
  rw [hnu] at h5
  rw [hfr] at h0
  rw [hto] at h1
  rw [hel] at h2
  rw [hop] at h3
  rw [hnum] at h4
  rw [hnn] at p0
  rw [hmm] at p1
  have hkm : (k : Int) < m := by omega
  have hk0 : (0 : Int) ≤ k := by omega
  have hu := Tryd.underlying47
  obtain ⟨bf, hbf⟩ : ∃ b, Nt.isNodeB n fr = b := ⟨_, rfl⟩
  obtain ⟨bt, hbt⟩ : ∃ b, Nt.isNodeB n tt = b := ⟨_, rfl⟩
  have CI1 : Hid (∀ W, Calls Tryd.prog 55 #[.agg #[.slice an n cn, .slice af m cf], .int .i64 fr] W fun e w' => e = .returned (.bool bf) ∧ Below W.heap.size W w') := fun W => by
    have h := Tryd.isNode_any fr an n cn af m cf W
    rw [hbf] at h
    exact h
  have CI2 : Hid (∀ W, Calls Tryd.prog 55 #[.agg #[.slice an n cn, .slice af m cf], .int .i64 tt] W fun e w' => e = .returned (.bool bt) ∧ Below W.heap.size W w') := fun W => by
    have h := Tryd.isNode_any tt an n cn af m cf W
    rw [hbt] at h
    exact h
  have CR : Hid (∀ ch W, Below w.heap.size w W → Calls Tryd.prog 56 #[.agg #[.int .i64 fr, .int .i64 tt, .bool els, .int .i64 op, .int .i64 num, .slice au nu cu], .bool ch] W fun e w' => e = .returned (.bool (Nt.condB f ch)) ∧ Below W.heap.size W w') := hcr
  have NK : Hid (∀ x : Nat, x < n → ∃ g o2, an = some ⟨g, o2, none⟩ ∧ ∀ W, Below w.heap.size w W → W.cell? ⟨g, o2 + x * 5, none⟩ = some (.int .i64 (Nt.kindAt ns x))) := fun x hx => hnk x (by omega)
  have HW0 : Hid (w.alloc (.cells #[.int .i64 fr, .int .i64 tt, .bool els, .int .i64 op, .int .i64 num, .slice au nu cu] 47) = W0) := hW0
  have HA : Hid (Below w.heap.size w W0 ∧ W0.heap[w.heap.size]? = some (.cells #[.int .i64 fr, .int .i64 tt, .bool els, .int .i64 op, .int .i64 num, .slice au nu cu] 47 (0, 0))) := ⟨A0, F0⟩
  -- what a later world holds
  have HB : Hid (∀ W, Below W0.heap.size W0 W → Below w.heap.size w W ∧ W.heap[w.heap.size]? = some (.cells #[.int .i64 fr, .int .i64 tt, .bool els, .int .i64 op, .int .i64 num, .slice au nu cu] 47 (0, 0)) ∧ W.cell? ⟨bn, 0, none⟩ = some (.slice an n cn) ∧ W.cell? ⟨bn, 1, none⟩ = some (.slice af m cf) ∧ W.heap[bj]? = some (.cells cs 79 (0, 0))) := fun W hb => by
    have hbw : Below w.heap.size w W := A0.trans (hb.mono A0.size)
    refine ⟨hbw, ?_, ?_, ?_, ?_⟩
    · rw [hb.block _ (Nt.lt_of F0)]; exact F0
    · rw [hbw.cell (p := ⟨bn, 0, none⟩) (Nt.lt_of hC.box)]; exact p0
    · rw [hbw.cell (p := ⟨bn, 1, none⟩) (Nt.lt_of hC.box)]; exact p1
    · rw [hbw.block _ (Nt.lt_of hC.jts)]; exact hC.jts
  have HJ : Hid (Nt.Joints cs fs n) := by show Nt.Joints _ _ _; rw [← hnn]; exact hJ
  have HE : Hid (Nt.isNodeB n fr = bf ∧ Nt.isNodeB n tt = bt ∧ f.fr = fr ∧ f.to = tt ∧ ns.length = n ∧ fs.length = m ∧ m ≤ 100 ∧ n ≤ 24) := ⟨hbf, hbt, hfr, hto, hnn, hmm, hfl, by omega⟩
  have hbn : bn < w.heap.size := Nt.lt_of hC.box
  have hbj : bj < w.heap.size := Nt.lt_of hC.jts
  subst hqa
  obtain ⟨r, hr⟩ : ∃ r, Nt.twoB ns fs f = r := ⟨_, rfl⟩
  rw [hr]
  have HR : Hid (Nt.twoB ns fs f = r) := hr
  clear hr hH hB hO hJ hC h6 hsz A0 F0 hcr hnk hnu hfr hto hel hop hnum hnn hmm hbf hbt hW0 hf hq hfl hn hk
  go_enter Tryd.func54, Tryd.ntmps54
  go_wp2_with fail
  rw [HW0.out]
  refine Calls.mono (CI1.out _) ?_
  rintro e W1 ⟨rfl, hb1⟩
  have B1 : Hid (Below W0.heap.size W0 W1) := hb1
  obtain ⟨_, g1, g2, g3, g4⟩ := HB.out W1 B1.out
  obtain ⟨x0, x1, x2, x3, x4, x5⟩ := Nt.flowBox g1
  clear hb1 CI1 h0 h1 h2 h3 h4 h5 p0 p1 HW0
  cases bf with
  | false =>
    have HD : Hid (r = false) := HR.out.symm.trans (Nt.twoB_from (by rw [HE.out.2.2.1, HE.out.2.2.2.2.1]; exact HE.out.1))
    clear CI2 CR
    go_wp2
    go_ret
    exact ⟨Tk.ret_bool (by rw [HD.out]; rfl), (HB.out W1 B1.out).1⟩
  | true =>
    go_wp2_with fail
    refine Calls.mono (CI2.out _) ?_
    rintro e W2 ⟨rfl, hb2⟩
    have B2 : Hid (Below W0.heap.size W0 W2) := B1.out.trans (hb2.mono B1.out.size)
    clear hb2 CI2 x0 x1 x2 x3 x4 x5 g1 g2 g3 g4
    obtain ⟨hbw2, g1, g2, g3, g4⟩ := HB.out W2 B2.out
    obtain ⟨x0, x1, x2, x3, x4, x5⟩ := Nt.flowBox g1
    have HW2 : Hid (Below w.heap.size w W2) := hbw2
    clear hbw2
    cases bt with
    | false =>
      have HD : Hid (r = false) := HR.out.symm.trans (Nt.twoB_to (by rw [HE.out.2.2.2.1, HE.out.2.2.2.2.1]; exact HE.out.2.1))
      clear CR
      go_wp2
      go_ret
      exact ⟨Tk.ret_bool (by rw [HD.out]; rfl), HW2.out⟩
    | true =>
      by_cases hft : fr = tt
      · have HD : Hid (r = false) := HR.out.symm.trans (Nt.twoB_same (by rw [HE.out.2.2.1, HE.out.2.2.2.1]; exact hft))
        have hq0 : (fr == tt) = true := by simpa using hft
        clear CR hft
        go_wp2
        go_ret
        exact ⟨Tk.ret_bool (by rw [HD.out]; rfl), HW2.out⟩
      · have hq0 : (fr == tt) = false := by simpa using hft
        have HD : Hid (r = Nt.condB f (Nt.chosenB ns fs f)) := HR.out.symm.trans (Nt.twoB_rest (by rw [HE.out.2.2.1, HE.out.2.2.2.2.1]; exact HE.out.1) (by rw [HE.out.2.2.2.1, HE.out.2.2.2.2.1]; exact HE.out.2.1) (by rw [HE.out.2.2.1, HE.out.2.2.2.1]; exact hft))
        clear hft
        obtain ⟨x, hx⟩ : ∃ x : Nat, fr = x := ⟨fr.toNat, by have := HE.out.1; simp [Nt.isNodeB] at this; omega⟩
        have hxn : x < n := by have := HE.out.1; simp [Nt.isNodeB] at this; omega
        subst hx
        have hx24 : (x : Int) < 24 := by have := HE.out.2.2.2.2.2.2.2; omega
        have hxn' : (x : Int) < n := by omega
        have hx0 : (0 : Int) ≤ x := by omega
        obtain ⟨gn, on, rfl, hnk⟩ := NK.out x hxn
        have hk5 := hnk W2 HW2.out
        obtain ⟨kx, hkx⟩ : ∃ z, Nt.kindAt ns x = z := ⟨_, rfl⟩
        obtain ⟨o, ho⟩ : ∃ z, Nt.outsN fs x = z := ⟨_, rfl⟩
        have hoc : W2.cell? ⟨bj, x * 3 + 1, none⟩ = some (.int .i64 o) := by
          have := (HJ.out.2.2 x hxn).2.1
          rw [ho] at this
          simp [World.cell?, g4, this]
        rw [hkx] at hk5
        have HCH : Hid (Nt.chosenB ns fs f = (decide (kx = 5) && decide (2 ≤ o))) := by
          show _ = _
          rw [Nt.chosenB, HE.out.2.2.1, Int.toNat_natCast, hkx, ho]
        clear hnk hkx ho NK
        by_cases h5 : kx = 5
        rotate_left
        · have e5 : (kx == 5) = false := by simpa using h5
          have HCF : Hid (Nt.chosenB ns fs f = false) := by show _ = _; rw [HCH.out, decide_eq_false h5, Bool.false_and]
          rw [HCF.out] at HD
          clear h5
          go_wp2_with fail
          refine Calls.mono (CR.out _ _ HW2.out) ?_
          rintro e W3 ⟨rfl, hb3⟩
          have B3 : Hid (Below w.heap.size w W3) := HW2.out.trans (hb3.mono HW2.out.size)
          clear hb3 CR
          go_wp2
          go_ret
          exact ⟨Tk.ret_bool (by rw [HD.out]), B3.out⟩
        · subst h5
          obtain ho | ho : decide ((1 : Int) < o) = true ∨ decide ((1 : Int) < o) = false := by cases decide ((1 : Int) < o) <;> simp
          all_goals
            have HCF : Hid (Nt.chosenB ns fs f = decide ((1 : Int) < o)) := by
              show _ = _
              rw [HCH.out, decide_eq_true rfl, Bool.true_and]
              exact decide_eq_decide.2 (by omega)
            rw [ho] at HCF
            rw [HCF.out] at HD
            go_wp2_with fail
            refine Calls.mono (CR.out _ _ HW2.out) ?_
            rintro e W3 ⟨rfl, hb3⟩
            have B3 : Hid (Below w.heap.size w W3) := HW2.out.trans (hb3.mono HW2.out.size)
            clear hb3 CR
            go_wp2
            go_ret
            exact ⟨Tk.ret_bool (by rw [HD.out]), B3.out⟩

end Go.Proofs
