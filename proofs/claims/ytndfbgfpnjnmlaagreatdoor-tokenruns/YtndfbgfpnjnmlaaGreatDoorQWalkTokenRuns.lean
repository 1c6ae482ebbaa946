import Derived.Test.YtndfbgfpnjnmlaaGreatDoorRGmLine
import Derived.Test.YtndfbgfpnjnmlaaGreatDoorQGmStEq
import Derived.Test.YtndfbgfpnjnmlaaGreatDoorRNtRef6
import Derived.Test.YtndfbgfpnjnmlaaGreatDoorRAllNtLargeM
namespace Go.Proofs.YtndfbgfpnjnmlaaGreatDoor.TokenRuns
open Go.RowKit Go.Shelf
def Pk (w : World) (B : Nat) (a : Option Addr) (ps : List Int) : Prop := ∀ j (h : j < ps.length), ∃ g off, a = some ⟨g, off, none⟩ ∧ g < B ∧ w.cell? ⟨g, off + j, none⟩ = some (.int .i64 ps[j])
theorem Pk.below {w w' : World} {B : Nat} {a : Option Addr} {ps : List Int} (h : Pk w B a ps) (hb : Below B w w') : Pk w' B a ps := fun j hj => by
 obtain ⟨g, off, h1, h2, h3⟩ := h j hj
 exact ⟨g, off, h1, h2, (hb.cell (p := ⟨g, off + j, none⟩) h2).trans h3⟩
theorem ones_len (a : List Nat) : ∀ t : List Int, (Gm.ones t a).length = t.length := by
 induction a with
 | nil => intro t; rfl
 | cons f r ih => intro t; show (Gm.ones (t.set f 1) r).length = _; rw [ih]; simp
theorem yields_ne {ops : Array Oper} {S : World → Prop} {op : Oper} {a : Act} (hw : Region.wanted op (yielded ops a.tmps) = true) (x y : Operand) (ho : op.op = .binOp .neq 32 x y 32) (t : List Int) (h : t.length = 49) (hx : a.eval x = .agg (Gm.ints t).toArray) (hy : a.eval y = .agg (Gm.ints t).toArray) : YieldsIf Tryz.prog ops S op (.bool false) a :=
 .inl ⟨hw, fun w _ => by
  have e : (binOp BinOp.neq 32 (.agg (Gm.ints t).toArray) (.agg (Gm.ints t).toArray)).run Tryz.prog w = .ok (.bool false) w := by
   have h1 := Gm.st_eq t h w
   simp only [binOp]
   simp [show Op.equal 32 (.agg (Gm.ints t).toArray) (.agg (Gm.ints t).toArray) = Op.equalIn 10000 32 (.agg (Gm.ints t).toArray) (.agg (Gm.ints t).toArray) from rfl, h1]
  have hg := run_eqGuard_agg (P := Tryz.prog) w BinOp.neq 32 x y (Gm.ints t).toArray (Gm.ints t).toArray (by kernel_rfl)
  unfold execOp
  simp only [ho, hx, hy, Sem.run_bind]
  rw [hg]
  simp only [Result.andThen]
  rw [e]
  rfl⟩
set_option maxRecDepth 20000 in
set_option maxHeartbeats 32000000 in
theorem walk (an : Option Addr) (cn : Nat) (af : Option Addr) (cf : Nat) (ap : Option Addr) (cp : Nat) (ns : List Nd) (fs : List Fl) (ps : List Int) (d : Nat) (w : World) (hN : Nt.Nds w w.heap.size d an ns) (hF : Nt.Fls w w.heap.size d af fs) (hP : Pk w w.heap.size ap ps) (hO : Tk.Ops w) :
    Calls Tryz.prog 5 #[.agg #[.slice an ns.length cn, .slice af fs.length cf], .slice ap ps.length cp] w fun e w' => e = .returned (.bool true) ∧ Below w.heap.size w w' := by
  obtain ⟨w0, hw0⟩ : ∃ x, w.alloc (.cells #[.slice an ns.length cn, .slice af fs.length cf] 25) = x := ⟨_, rfl⟩
  have A0 : Below w.heap.size w w0 := by rw [← hw0]; exact (Below.refl _ w).alloc (Nat.le_refl _) _
  have G0 : w0.heap[w.heap.size]? = some (.cells #[.slice an ns.length cn, .slice af fs.length cf] 25 (0, 0)) := by rw [← hw0]; exact heap_alloc_new w _
  have hlg := Tryz.nlarge_any an cn af cf d ns fs w0 ((hN.below A0).wider A0.size) ((hF.below A0).wider A0.size)
  have HLN : Hid (∀ W, Below w.heap.size w W → Calls Tryz.prog 7 #[] W fun e w' => e = .returned (.bool true) ∧ Hid (Below w.heap.size w w')) := fun W hb => (Tryz.line07_any W (hO.below hb hO.lt)).mono fun e w' h => ⟨h.1, hb.trans (h.2.mono hb.size)⟩
  obtain ⟨n, hnn⟩ : ∃ n, ns.length = n := ⟨_, rfl⟩
  obtain ⟨m, hmm⟩ : ∃ n, fs.length = n := ⟨_, rfl⟩
  obtain ⟨k, hkk⟩ : ∃ n, ps.length = n := ⟨_, rfl⟩
  have HBX : Hid (∀ W, Below w0.heap.size w0 W → W.cell? ⟨w.heap.size, 0, none⟩ = some (.slice an n cn) ∧ W.cell? ⟨w.heap.size, 1, none⟩ = some (.slice af m cf)) := fun W hb => by
    have h1 := (hb.block _ (Gm.blk_lt G0)).trans G0
    rw [hnn, hmm] at h1
    exact ⟨by simp [World.cell?, h1], by simp [World.cell?, h1]⟩
  have HNF : Hid (Nt.Nds w w.heap.size d an ns ∧ Nt.Fls w w.heap.size d af fs ∧ Tk.Ops w ∧ ns.length = n ∧ fs.length = m ∧ ps.length = k ∧ Pk w w.heap.size ap ps) := ⟨hN, hF, hO, hnn, hmm, hkk, hP⟩
  rw [hnn, hmm] at hlg hw0 ⊢
  rw [hkk]
  have huT := Tryz.underlying29
  have huR := Tryz.underlying32
  have HL : Hid _ := hlg
  have H0 : Hid (w.alloc (.cells #[.slice an n cn, .slice af m cf] 25) = w0) := hw0
  have HA : Hid (Below w.heap.size w w0) := A0
  clear hlg hw0 A0 G0 hN hF hP hO hnn hmm hkk
  go_enter Tryz.func5, Tryz.ntmps5
  go_wp2_with fail
  rw [H0.out]
  refine Calls.mono HL.out ?_
  rintro e W1 ⟨hb1, rfl | ⟨rfl, hn60, hm100, hnz, hfz⟩⟩
  · have B1 : Hid (Below w.heap.size w W1) := HA.out.trans (hb1.mono HA.out.size)
    clear hb1 HL H0 HBX
    go_wp2_with fail
    refine Calls.mono (HLN.out W1 B1.out) ?_
    rintro e W2 ⟨rfl, B2⟩
    clear HLN
    go_wp2
    go_ret
    exact ⟨rfl, B2.out⟩
  have B1 : Hid (Below w0.heap.size w0 W1) := hb1
  by_cases hk : 40 < k
  · have B1' : Hid (Below w.heap.size w W1) := HA.out.trans (hb1.mono HA.out.size)
    have hd : decide ((40 : Int) < k) = true := decide_eq_true (by omega)
    clear hb1 HL H0 HBX hn60 hm100 hnz hfz
    go_wp2_with fail
    refine Calls.mono (HLN.out W1 B1'.out) ?_
    rintro e W2 ⟨rfl, B2⟩
    clear HLN
    go_wp2
    go_ret
    exact ⟨rfl, B2.out⟩
  have hd : decide ((40 : Int) < k) = false := decide_eq_false (by omega)
  have HS : Hid (∀ W, Below w0.heap.size w0 W → Nt.Has W W.heap.size d an af ns fs ∧ Tk.Ops W ∧ Below w.heap.size w W) := fun W hb => by
    have hbw : Below w.heap.size w W := HA.out.trans (hb.mono HA.out.size)
    refine ⟨⟨(HNF.out.1.below hbw).wider hbw.size, (HNF.out.2.1.below hbw).wider hbw.size, by omega, by omega, fun x hx => by have := hnz x hx; omega, fun x hx => by have := hfz x hx; omega⟩, HNF.out.2.2.1.below hbw HNF.out.2.2.1.lt, hbw⟩
  clear hb1 HL H0 hn60 hm100 hnz hfz
  obtain ⟨S, hS⟩ : ∃ z, Gm.startS ns fs = z := ⟨_, rfl⟩
  obtain ⟨E, hE⟩ : ∃ z, Gm.startE ns fs = z := ⟨_, rfl⟩
  obtain ⟨ru, hru⟩ : ∃ z, Nt.checkN ns fs = z := ⟨_, rfl⟩
  obtain ⟨r, q⟩ := ru
  have hS49 : S.length = 49 := by
    rw [← hS]; unfold Gm.startS
    split
    · rfl
    · unfold Gm.startL; rw [ones_len]; rfl
  have CS : Hid (∀ W, Below w0.heap.size w0 W → Calls Tryz.prog 18 #[.agg #[.slice an n cn, .slice af m cf]] W fun e w' => e = .returned (.tuple #[.agg (Gm.ints S).toArray, .int .i64 E]) ∧ Hid (Below w0.heap.size w0 w')) := fun W hb => by
    have h := Tryz.tStart_any an n cn af m cf W d ns fs (HS.out W hb).1 HNF.out.2.2.2.1 HNF.out.2.2.2.2.1 (HS.out W hb).2.1
    rw [hS, hE] at h
    exact h.mono fun e w' q => ⟨q.1, hb.trans (q.2.mono hb.size)⟩
  have CK : Hid (∀ W, Below w0.heap.size w0 W → Calls Tryz.prog 19 #[.agg #[.slice an n cn, .slice af m cf]] W fun e w' => e = .returned (.agg #[.int .i64 (r : Int), .int .i64 (q : Int)]) ∧ Hid (Below W.heap.size W w')) := fun W hb => by
    have h := Tryz.rCheck_any an cn af cf d ns fs W (HS.out W hb).1
    rw [HNF.out.2.2.2.1, HNF.out.2.2.2.2.1, hru] at h
    exact h.mono fun e w' q => ⟨q.1, q.2⟩
  have hfd : ∀ W : World, (Instr.field 57 (.agg #[.int .i64 (r : Int), .int .i64 (q : Int)]) 0).run Tryz.prog W = .ok (.int .i64 (r : Int)) W := fun _ => by kernel_rfl
  have h49 : (Gm.ints S).toArray.size = 49 := by simpa [Gm.ints_length] using hS49
  have eT : (Tryz.prog.info? 29).map (·.size) = some (Gm.ints S).toArray.size := by rw [h49]; show _ = _; kernel_rfl
  have hi3 : (#[.int .i64 0, .int .i64 0, .int .i64 0, .int .i64 0, .int .i64 0, .int .i64 0, .int .i64 0, .int .i64 0, .int .i64 0, .int .i64 0, .int .i64 0, .int .i64 0, .int .i64 0, .int .i64 0, .int .i64 0, .int .i64 0, .int .i64 0, .int .i64 0, .int .i64 0, .int .i64 0, .int .i64 0, .int .i64 0, .int .i64 0, .int .i64 0, .int .i64 0, .int .i64 0, .int .i64 0, .int .i64 0, .int .i64 0, .int .i64 0, .int .i64 0, .int .i64 0, .int .i64 0, .int .i64 0, .int .i64 0, .int .i64 0, .int .i64 0, .int .i64 0, .int .i64 0, .int .i64 0, .int .i64 0, .int .i64 0, .int .i64 0, .int .i64 0, .int .i64 0, .int .i64 0, .int .i64 0, .int .i64 0, .int .i64 0] : Array Value).size = (Gm.ints S).toArray.size := by rw [h49]; rfl
  have h1c : (Gm.ints S).toArray.all (·.oneCell') = true := all_oneCell_toArray (Gm.ints_one S)
  obtain ⟨p0, p1⟩ := HBX.out W1 B1.out
  go_wp2_with fail
  refine Calls.mono (CS.out W1 B1.out) ?_
  rintro e W2 ⟨rfl, B2⟩
  clear p0 p1 CS
  have N2 : (W2.alloc (.cells #[.int .i64 0, .int .i64 0, .int .i64 0, .int .i64 0, .int .i64 0, .int .i64 0, .int .i64 0, .int .i64 0, .int .i64 0, .int .i64 0, .int .i64 0, .int .i64 0, .int .i64 0, .int .i64 0, .int .i64 0, .int .i64 0, .int .i64 0, .int .i64 0, .int .i64 0, .int .i64 0, .int .i64 0, .int .i64 0, .int .i64 0, .int .i64 0, .int .i64 0, .int .i64 0, .int .i64 0, .int .i64 0, .int .i64 0, .int .i64 0, .int .i64 0, .int .i64 0, .int .i64 0, .int .i64 0, .int .i64 0, .int .i64 0, .int .i64 0, .int .i64 0, .int .i64 0, .int .i64 0, .int .i64 0, .int .i64 0, .int .i64 0, .int .i64 0, .int .i64 0, .int .i64 0, .int .i64 0, .int .i64 0, .int .i64 0] 29)).heap[W2.heap.size]? = some (.cells #[.int .i64 0, .int .i64 0, .int .i64 0, .int .i64 0, .int .i64 0, .int .i64 0, .int .i64 0, .int .i64 0, .int .i64 0, .int .i64 0, .int .i64 0, .int .i64 0, .int .i64 0, .int .i64 0, .int .i64 0, .int .i64 0, .int .i64 0, .int .i64 0, .int .i64 0, .int .i64 0, .int .i64 0, .int .i64 0, .int .i64 0, .int .i64 0, .int .i64 0, .int .i64 0, .int .i64 0, .int .i64 0, .int .i64 0, .int .i64 0, .int .i64 0, .int .i64 0, .int .i64 0, .int .i64 0, .int .i64 0, .int .i64 0, .int .i64 0, .int .i64 0, .int .i64 0, .int .i64 0, .int .i64 0, .int .i64 0, .int .i64 0, .int .i64 0, .int .i64 0, .int .i64 0, .int .i64 0, .int .i64 0, .int .i64 0] 29 (0, 0)) := heap_alloc_new W2 _
  obtain ⟨W3, hW3⟩ : ∃ z, (W2.alloc (.cells #[.int .i64 0, .int .i64 0, .int .i64 0, .int .i64 0, .int .i64 0, .int .i64 0, .int .i64 0, .int .i64 0, .int .i64 0, .int .i64 0, .int .i64 0, .int .i64 0, .int .i64 0, .int .i64 0, .int .i64 0, .int .i64 0, .int .i64 0, .int .i64 0, .int .i64 0, .int .i64 0, .int .i64 0, .int .i64 0, .int .i64 0, .int .i64 0, .int .i64 0, .int .i64 0, .int .i64 0, .int .i64 0, .int .i64 0, .int .i64 0, .int .i64 0, .int .i64 0, .int .i64 0, .int .i64 0, .int .i64 0, .int .i64 0, .int .i64 0, .int .i64 0, .int .i64 0, .int .i64 0, .int .i64 0, .int .i64 0, .int .i64 0, .int .i64 0, .int .i64 0, .int .i64 0, .int .i64 0, .int .i64 0, .int .i64 0] 29)).setRow W2.heap.size (Gm.ints S).toArray = z := ⟨_, rfl⟩
  have N3 : W3.heap[W2.heap.size]? = some (.cells (Gm.ints S).toArray 29 (0, 0)) := by rw [← hW3]; exact setRow_heap _ _ _ _ _ _ N2
  have B3 : Below w0.heap.size w0 W3 := by rw [← hW3]; exact Tk.below_row (B2.out.alloc B2.out.size _) B2.out.size _
  have HW3 : Hid _ := hW3
  have HB3 : Hid (Below w0.heap.size w0 W3) := B3
  obtain ⟨p0, p1⟩ := HBX.out W3 B3
  clear hW3 B3
  go_upto_region 4 with (refine wpList_store_row rfl 29 _ _ rfl W2.heap.size (Gm.ints S).toArray rfl rfl 29 _ N2 eT hi3 h1c ?_)
  rw [HW3.out]
  clear HW3 N2
  go_wp2_with fail
  refine Calls.mono (CK.out W3 HB3.out) ?_
  rintro e W4 ⟨rfl, B4⟩
  have HB4 : Hid (Below w0.heap.size w0 W4 ∧ W4.heap[W2.heap.size]? = some (.cells (Gm.ints S).toArray 29 (0, 0))) := ⟨HB3.out.trans (B4.out.mono HB3.out.size), (B4.out.block _ (Gm.blk_lt N3)).trans N3⟩
  clear p0 p1 CK N3 B4
  by_cases hr : r = 0
  · have e0 : ((r : Int) != 0) = false := by simp [hr]
    have hr1 : (Nt.checkN ns fs).1 = 0 := by rw [hru]; exact hr
    have hSL : Gm.startL ns fs = S := by rw [← hS]; unfold Gm.startS; rw [if_neg (by simpa using hr1)]
    obtain rfl : 0 = E := by rw [← hE]; unfold Gm.startE; rw [if_neg (by simpa using hr1)]
    have CR : Hid (∀ W, Below w0.heap.size w0 W → Calls Tryz.prog 20 #[.agg #[.slice an n cn, .slice af m cf]] W fun e w' => e = .returned (.agg (Gm.ints S).toArray) ∧ Hid (Below W.heap.size W w')) := fun W hb => by
      have h := Tryz.rStart_any an n cn af m cf W d ns fs (HS.out W hb).1 HNF.out.2.2.2.1 HNF.out.2.2.2.2.1 hr1
      rw [hSL] at h
      exact h.mono fun e w' q => ⟨q.1, q.2⟩
    have CRF : Hid (∀ {V : World} W, Below V.heap.size V W → Calls Tryz.prog 8 #[.agg (Gm.ints S).toArray] W fun e w' => e = .returned (.agg (Gm.ints S).toArray) ∧ Hid (Below V.heap.size V w')) := fun {V} W hb =>
      (Tryz.lref07_any S W hS49).mono fun e w' q => ⟨q.1, hb.trans (q.2.mono hb.size)⟩
    have eR : (Tryz.prog.info? 32).map (·.size) = some (Gm.ints S).toArray.size := by rw [h49]; show _ = _; kernel_rfl
    have eT' : (Tryz.prog.info? 29).map (·.size) = some (Gm.ints S).length := by rw [Gm.ints_length, hS49]; show _ = _; kernel_rfl
    have eR' : (Tryz.prog.info? 32).map (·.size) = some (Gm.ints S).length := by rw [Gm.ints_length, hS49]; show _ = _; kernel_rfl
    obtain ⟨p0, p1⟩ := HBX.out W4 HB4.out.1
    clear hru hS hE hr hr1 hSL h49
    go_wp2_with fail
    refine Calls.mono (CR.out W4 HB4.out.1) ?_
    rintro e W5 ⟨rfl, B5⟩
    clear p0 p1 CR
    have N5 : (W5.alloc (.cells #[.int .i64 0, .int .i64 0, .int .i64 0, .int .i64 0, .int .i64 0, .int .i64 0, .int .i64 0, .int .i64 0, .int .i64 0, .int .i64 0, .int .i64 0, .int .i64 0, .int .i64 0, .int .i64 0, .int .i64 0, .int .i64 0, .int .i64 0, .int .i64 0, .int .i64 0, .int .i64 0, .int .i64 0, .int .i64 0, .int .i64 0, .int .i64 0, .int .i64 0, .int .i64 0, .int .i64 0, .int .i64 0, .int .i64 0, .int .i64 0, .int .i64 0, .int .i64 0, .int .i64 0, .int .i64 0, .int .i64 0, .int .i64 0, .int .i64 0, .int .i64 0, .int .i64 0, .int .i64 0, .int .i64 0, .int .i64 0, .int .i64 0, .int .i64 0, .int .i64 0, .int .i64 0, .int .i64 0, .int .i64 0, .int .i64 0] 32)).heap[W5.heap.size]? = some (.cells #[.int .i64 0, .int .i64 0, .int .i64 0, .int .i64 0, .int .i64 0, .int .i64 0, .int .i64 0, .int .i64 0, .int .i64 0, .int .i64 0, .int .i64 0, .int .i64 0, .int .i64 0, .int .i64 0, .int .i64 0, .int .i64 0, .int .i64 0, .int .i64 0, .int .i64 0, .int .i64 0, .int .i64 0, .int .i64 0, .int .i64 0, .int .i64 0, .int .i64 0, .int .i64 0, .int .i64 0, .int .i64 0, .int .i64 0, .int .i64 0, .int .i64 0, .int .i64 0, .int .i64 0, .int .i64 0, .int .i64 0, .int .i64 0, .int .i64 0, .int .i64 0, .int .i64 0, .int .i64 0, .int .i64 0, .int .i64 0, .int .i64 0, .int .i64 0, .int .i64 0, .int .i64 0, .int .i64 0, .int .i64 0, .int .i64 0] 32 (0, 0)) := heap_alloc_new W5 _
    obtain ⟨W6, hW6⟩ : ∃ z, (W5.alloc (.cells #[.int .i64 0, .int .i64 0, .int .i64 0, .int .i64 0, .int .i64 0, .int .i64 0, .int .i64 0, .int .i64 0, .int .i64 0, .int .i64 0, .int .i64 0, .int .i64 0, .int .i64 0, .int .i64 0, .int .i64 0, .int .i64 0, .int .i64 0, .int .i64 0, .int .i64 0, .int .i64 0, .int .i64 0, .int .i64 0, .int .i64 0, .int .i64 0, .int .i64 0, .int .i64 0, .int .i64 0, .int .i64 0, .int .i64 0, .int .i64 0, .int .i64 0, .int .i64 0, .int .i64 0, .int .i64 0, .int .i64 0, .int .i64 0, .int .i64 0, .int .i64 0, .int .i64 0, .int .i64 0, .int .i64 0, .int .i64 0, .int .i64 0, .int .i64 0, .int .i64 0, .int .i64 0, .int .i64 0, .int .i64 0, .int .i64 0] 32)).setRow W5.heap.size (Gm.ints S).toArray = z := ⟨_, rfl⟩
    have B56 : Below W5.heap.size W5 W6 := by rw [← hW6]; exact Tk.below_row ((Below.refl _ W5).alloc (Nat.le_refl _) _) (Nat.le_refl _) _
    have N6 : W6.heap[W5.heap.size]? = some (.cells (Gm.ints S).toArray 32 (0, 0)) := by rw [← hW6]; exact setRow_heap _ _ _ _ _ _ N5
    have B05 : Below w0.heap.size w0 W5 := HB4.out.1.trans (B5.out.mono HB4.out.1.size)
    have B06 : Below w0.heap.size w0 W6 := B05.trans (B56.mono B05.size)
    have N6s : W6.heap[W2.heap.size]? = some (.cells (Gm.ints S).toArray 29 (0, 0)) := by
      have h5 := (B5.out.block _ (Gm.blk_lt HB4.out.2)).trans HB4.out.2
      exact (B56.block _ (Gm.blk_lt h5)).trans h5
    have HB6 : Hid (Below w0.heap.size w0 W6 ∧ W6.heap[W2.heap.size]? = some (.cells (Gm.ints S).toArray 29 (0, 0)) ∧ W6.heap[W5.heap.size]? = some (.cells (Gm.ints S).toArray 32 (0, 0)) ∧ w0.heap.size ≤ W2.heap.size ∧ w0.heap.size ≤ W5.heap.size) := ⟨B06, N6s, N6, B2.out.size, B05.size⟩
    have HW6 : Hid _ := hW6
    clear hW6 B56 N6 B05 B06 N6s B5
    go_upto_region 7 with (refine wpList_store_row rfl 32 _ _ rfl W5.heap.size (Gm.ints S).toArray rfl rfl 32 _ N5 eR hi3 h1c ?_)
    rw [HW6.out]
    clear HW6 N5
    obtain ⟨bS, hbS⟩ : ∃ z, W2.heap.size = z := ⟨_, rfl⟩
    obtain ⟨bW, hbW⟩ : ∃ z, W5.heap.size = z := ⟨_, rfl⟩
    rw [hbS, hbW] at HB6
    have HbS : Hid _ := hbS
    have HbW : Hid _ := hbW
    clear hbS hbW
    rw [HbS.out, HbW.out]
    have HRG : Hid (∀ V, Below W6.heap.size W6 V → V.rangeAt bS 0 (Gm.ints S) ∧ V.rangeAt bW 0 (Gm.ints S)) := fun V hb => by
      have x1 := (hb.block _ (Gm.blk_lt HB6.out.2.1)).trans HB6.out.2.1
      have x2 := (hb.block _ (Gm.blk_lt HB6.out.2.2.1)).trans HB6.out.2.2.1
      refine ⟨fun j v hv => ?_, fun j v hv => ?_⟩
      · simp only [World.cell?, x1, Nat.zero_add]; simpa using hv
      · simp only [World.cell?, x2, Nat.zero_add]; simpa using hv
    refine wp_region_held_drew (S := (fun V => V.rangeAt bS 0 (Gm.ints S) ∧ V.rangeAt bW 0 (Gm.ints S))) (by kernel_rfl) ?_ (fun hHeld => ?_)
    · exact HRG.out _ (Below.refl _ _).drew
    refine Nt.takeS (v := ?va0) 0 44 rfl rfl (by kernel_rfl) (by kernel_rfl) (by kernel_rfl) (fun _ _ _ h => h) (Or.inl ⟨by rfl, ?ya0⟩) hHeld ?ra0
    case ya0 => (intro w hSw; (try dsimp only at hSw); go_simp; all_goals (with_reducible rfl))
    simp only [List.set_cons_succ, List.set_cons_zero]
    refine Nt.takeS (v := ?va1) 1 45 rfl rfl (by kernel_rfl) (by kernel_rfl) (by kernel_rfl) (fun _ _ _ h => h) (Or.inl ⟨by rfl, ?ya1⟩) hHeld ?ra1
    case ya1 => (intro w hSw; (try dsimp only at hSw); go_simp; all_goals (with_reducible rfl))
    simp only [List.set_cons_succ, List.set_cons_zero]
    refine Nt.takeS (v := ?va2) 2 46 rfl rfl (by kernel_rfl) (by kernel_rfl) (by kernel_rfl) (fun _ _ _ h => h) (Or.inl ⟨by rfl, ?ya2⟩) hHeld ?ra2
    case ya2 => (intro w hSw; (try dsimp only at hSw); go_simp; all_goals (with_reducible rfl))
    simp only [List.set_cons_succ, List.set_cons_zero]
    refine Nt.takeS 3 47 rfl rfl (by kernel_rfl) (by kernel_rfl) (by kernel_rfl) (fun _ _ _ h => h) (yieldsIf_load_mid (by rfl) _ _ rfl _ _ rfl (Gm.ints S) _ (fun _ hw => hw.1) huT rfl eT') hHeld ?_
    simp only [List.set_cons_succ, List.set_cons_zero]
    refine Nt.takeS 5 49 rfl rfl (by kernel_rfl) (by kernel_rfl) (by kernel_rfl) (fun _ _ _ h => h) (yieldsIf_load_mid (by rfl) _ _ rfl _ _ rfl (Gm.ints S) _ (fun _ hw => hw.2) huR rfl eR') hHeld ?_
    simp only [List.set_cons_succ, List.set_cons_zero]
    refine wpAnyH_ready (rs := [4]) (by kernel_rfl) (by simp) ?_
    refine AllReadyH.cons rfl (fun K hK => ?_) AllReadyH.nil
    rw [if_pos (by rfl)]
    go_simp
    go_at_call 8
    refine Calls.mono (CRF.out _ (Below.refl _ _).drew) ?_
    rintro e W7 ⟨rfl, H7⟩
    go_wp2_with fail
    refine hK.out _ _ ?_ (fun hTe => ?_)
    · exact HRG.out _ H7.out
    clear hK K
    first | refine Nt.normS 48 rfl ?_ | skip
    first | (simp only [List.set_cons_succ, List.set_cons_zero]) | skip
    refine Nt.takeS 6 50 rfl rfl (by kernel_rfl) (by kernel_rfl) (by kernel_rfl) (fun _ _ _ h => h) (yields_ne (by rfl) _ _ rfl S hS49 rfl rfl) hTe ?_
    simp only [List.set_cons_succ, List.set_cons_zero]
    refine Nt.takeS (v := ?vc7) 7 51 rfl rfl (by kernel_rfl) (by kernel_rfl) (by kernel_rfl) (fun _ _ _ h => h) (Or.inl ⟨by rfl, ?yc7⟩) hTe ?rc7
    case yc7 => (intro w hSw; (try dsimp only at hSw); go_simp; all_goals (with_reducible rfl))
    simp only [List.set_cons_succ, List.set_cons_zero]
    refine wpAnyH_done (by kernel_rfl) ?_ _
    have HG : Hid (∀ l : List Int, l.length = 49 → (Tryz.prog.info? 29).map (·.size) = some (Gm.ints l).toArray.size ∧ (Tryz.prog.info? 32).map (·.size) = some (Gm.ints l).toArray.size ∧ (Gm.ints l).toArray.all (·.oneCell') = true ∧ (#[.int .i64 0, .int .i64 0, .int .i64 0, .int .i64 0, .int .i64 0, .int .i64 0, .int .i64 0, .int .i64 0, .int .i64 0, .int .i64 0, .int .i64 0, .int .i64 0, .int .i64 0, .int .i64 0, .int .i64 0, .int .i64 0, .int .i64 0, .int .i64 0, .int .i64 0, .int .i64 0, .int .i64 0, .int .i64 0, .int .i64 0, .int .i64 0, .int .i64 0, .int .i64 0, .int .i64 0, .int .i64 0, .int .i64 0, .int .i64 0, .int .i64 0, .int .i64 0, .int .i64 0, .int .i64 0, .int .i64 0, .int .i64 0, .int .i64 0, .int .i64 0, .int .i64 0, .int .i64 0, .int .i64 0, .int .i64 0, .int .i64 0, .int .i64 0, .int .i64 0, .int .i64 0, .int .i64 0, .int .i64 0, .int .i64 0] : Array Value).size = (Gm.ints l).toArray.size) := fun l hl => by
      have h : (Gm.ints l).toArray.size = 49 := by simpa [Gm.ints_length] using hl
      exact ⟨by rw [h]; show _ = _; kernel_rfl, by rw [h]; show _ = _; kernel_rfl, all_oneCell_toArray (Gm.ints_one l), by rw [h]; rfl⟩
    have CST : Hid (∀ (l : List Int) W, l.length = 49 → Below w0.heap.size w0 W → Calls Tryz.prog 13 #[.agg #[.slice an n cn, .slice af m cf], .agg (Gm.ints l).toArray] W fun e w' => ∃ a c, e = .returned (.slice a (Gm.stepsD ns fs l).length c) ∧ Hid (w'.ownsRow W.heap.size 61 54 (.slice a (Gm.stepsD ns fs l).length c) (Gm.stepsD ns fs l).length (Gm.stL (Gm.stepsD ns fs l)) ∧ Below W.heap.size W w')) := fun l W hl hb =>
      (Tryz.rSteps_any an n cn af m cf l W d ns fs (HS.out W hb).1 HNF.out.2.2.2.1 HNF.out.2.2.2.2.1 hl).mono fun e w' ⟨v, hv, H⟩ => by
        rcases H.out.1.2 with ⟨e1, e2⟩ | ⟨g, cap, cur, e1, _⟩
        · rw [e1] at hv H
          exact ⟨none, 0, by rw [hv, e2], by rw [e2] at H ⊢; exact H⟩
        · rw [e1] at hv H
          exact ⟨_, _, hv, H⟩
    have HI7 : Hid (∃ l : List Int, l.length = 49 ∧ W7.heap[bS]? = some (.cells (Gm.ints l).toArray 29 (0, 0)) ∧ W7.heap[bW]? = some (.cells (Gm.ints l).toArray 32 (0, 0)) ∧ Below w0.heap.size w0 W7) := ⟨S, hS49, (H7.out.block _ (Gm.blk_lt HB6.out.2.1)).trans HB6.out.2.1, (H7.out.block _ (Gm.blk_lt HB6.out.2.2.1)).trans HB6.out.2.2.1, HB6.out.1.trans (H7.out.mono HB6.out.1.size)⟩
    have HBB : Hid (w0.heap.size ≤ bS ∧ w0.heap.size ≤ bW) := ⟨HB6.out.2.2.2.1, HB6.out.2.2.2.2⟩
    clear HRG CRF HB6 HbS HbW H7 hTe hHeld eT eR eT' eR' hi3 h1c HB4 HB3 B2 B1 hfd
    go_wp2
    go_loopg [54] k (fun gk s wr => ∃ j : Nat, gk + j = k ∧ s = .int .i64 j ∧ Hid (∃ l : List Int, l.length = 49 ∧ wr.heap[bS]? = some (.cells (Gm.ints l).toArray 29 (0, 0)) ∧ wr.heap[bW]? = some (.cells (Gm.ints l).toArray 32 (0, 0)) ∧ Below w0.heap.size w0 wr))
    case atStart => exact ⟨0, by omega, rfl, HI7.out⟩
    case round =>
      obtain ⟨j, hj, rfl, HJ⟩ := hrel
      by_cases hlt : j < k
      · have hd1 : decide ((j : Int) < k) = true := decide_eq_true (by omega)
        have j0 : (0 : Int) ≤ j := by omega
        have j1 : (j : Int) < k := by omega
        obtain ⟨l, hl, NS, NW, hbr⟩ := HJ.out
        have HBR : Hid (Below w0.heap.size w0 wr ∧ wr.heap[bS]? = some (.cells (Gm.ints l).toArray 29 (0, 0)) ∧ wr.heap[bW]? = some (.cells (Gm.ints l).toArray 32 (0, 0)) ∧ l.length = 49) := ⟨hbr, NS, NW, hl⟩
        obtain ⟨g, off, rfl, hg, cpj⟩ := (HNF.out.2.2.2.2.2.2.below (HS.out wr hbr).2.2) j (by rw [HNF.out.2.2.2.2.2.1]; exact hlt)
        obtain ⟨p, hp⟩ : ∃ z, ps[j]'(by rw [HNF.out.2.2.2.2.2.1]; exact hlt) = z := ⟨_, rfl⟩
        rw [hp] at cpj
        obtain ⟨p0, p1⟩ := HBX.out wr hbr
        obtain ⟨-, eR, -, -⟩ := HG.out l hl
        have HC : Hid _ := CST.out l wr hl hbr
        obtain ⟨ss, hss⟩ : ∃ z, Gm.stepsD ns fs l = z := ⟨_, rfl⟩
        rw [hss] at HC
        obtain ⟨q', hq'⟩ : ∃ z, ss.length = z := ⟨_, rfl⟩
        rw [hq'] at HC
        have HSS : Hid (Gm.stepsD ns fs l = ss ∧ ss.length = q') := ⟨hss, hq'⟩
        clear HJ hp hg hss hq' hbr NS hl
        go_wp2_with (first | refine wpList_load_row rfl 32 _ rfl _ rfl 32 (Gm.ints l).toArray (0, 0) _ NW huR rfl eR ?_ | fail)
        refine Calls.mono HC.out ?_
        rintro e V1 ⟨av, cv, rfl, HV⟩
        have HNX : Hid (∃ l : List Int, l.length = 49 ∧ V1.heap[bS]? = some (.cells (Gm.ints l).toArray 29 (0, 0)) ∧ V1.heap[bW]? = some (.cells (Gm.ints l).toArray 32 (0, 0)) ∧ Below w0.heap.size w0 V1) := ⟨l, HBR.out.2.2.2, (HV.out.2.block _ (Gm.blk_lt HBR.out.2.1)).trans HBR.out.2.1, (HV.out.2.block _ (Gm.blk_lt HBR.out.2.2.1)).trans HBR.out.2.2.1, HBR.out.1.trans (HV.out.2.mono HBR.out.1.size)⟩
        clear HC p0 p1 NW eR cpj
        by_cases hp0 : p < 0
        · have hd2 : decide (p < 0) = true := decide_eq_true hp0
          go_wp2
          go_roundg (gk - 1)
          case measure => omega
          case rel => exact ⟨j + 1, by omega, by go_num, HNX.out⟩
        have hd2 : decide (p < 0) = false := decide_eq_false hp0
        by_cases hq0 : q' = 0
        · subst hq0
          go_wp2
          go_roundg (gk - 1)
          case measure => omega
          case rel => exact ⟨j + 1, by omega, by go_num, HNX.out⟩
        have hq1 : ((q' : Nat) : Int) ≠ 0 := by omega
        have hq2 : (((q' : Nat) : Int) == 0) = false := by simpa using hq0
        obtain ⟨K, hK⟩ : ∃ K : Nat, p % (q' : Int) = (K : Int) := ⟨(p % (q' : Int)).toNat, (Int.toNat_of_nonneg (Int.emod_nonneg _ hq1)).symm⟩
        have hKq : K < q' := by have := Int.emod_lt_of_pos p (show (0 : Int) < q' by omega); omega
        have hKs : K < ss.length := by rw [HSS.out.2]; exact hKq
        obtain ⟨st, hst⟩ : ∃ z, ss[K] = z := ⟨_, rfl⟩
        obtain ⟨mv, ts⟩ := st
        have hce : Gm.checkE ns fs l = 0 := by
          by_cases h : Gm.checkE ns fs l = 0
          · exact h
          · have h1 := HSS.out.1
            unfold Gm.stepsD at h1
            rw [if_pos h] at h1
            rw [← h1] at hKs
            simp at hKs
        have hW49 := Gm.steps_49 ns fs HBR.out.2.2.2
        rw [HSS.out.1] at hW49
        have hT49 : ts.length = 49 := by
          have := hW49 ss[K] (List.getElem_mem hKs)
          rw [hst] at this
          exact this
        have hdo : Gm.doR (Gm.checkE ns fs l) (Gm.allS ns fs l) (K : Int) = (ts, (mv.k, mv.ln, mv.la), 0) := by
          rw [Gm.steps_same ns fs l HBR.out.2.2.2, HSS.out.1, hce]
          unfold Gm.doR
          rw [if_neg (by simp), if_neg (by omega), show ((K : Nat) : Int).toNat = K from rfl, List.getElem?_eq_getElem hKs, hst]
        obtain ⟨lv, _, NS1, _, hb1⟩ : ∃ l' : List Int, l' = l ∧ V1.heap[bS]? = some (.cells (Gm.ints l).toArray 29 (0, 0)) ∧ V1.heap[bW]? = some (.cells (Gm.ints l).toArray 32 (0, 0)) ∧ Below w0.heap.size w0 V1 := ⟨l, rfl, (HV.out.2.block _ (Gm.blk_lt HBR.out.2.1)).trans HBR.out.2.1, (HV.out.2.block _ (Gm.blk_lt HBR.out.2.2.1)).trans HBR.out.2.2.1, HBR.out.1.trans (HV.out.2.mono HBR.out.1.size)⟩
        obtain ⟨q1, hq1'⟩ : ∃ z, mv.k = z := ⟨_, rfl⟩
        obtain ⟨q2, hq2'⟩ : ∃ z, mv.ln = z := ⟨_, rfl⟩
        obtain ⟨q3, hq3'⟩ : ∃ z, mv.la = z := ⟨_, rfl⟩
        rw [hq1', hq2', hq3'] at hdo
        have CD : Hid (Calls Tryz.prog 16 #[.agg #[.slice an n cn, .slice af m cf], .agg (Gm.ints l).toArray, .int .i64 (K : Int)] V1 fun e w' => e = .returned (.tuple #[.agg (Gm.ints ts).toArray, .agg #[.int .i64 q1, .int .i64 q2, .int .i64 q3], .int .i64 0]) ∧ Hid (Below V1.heap.size V1 w')) := by
          have h := Tryz.tDo_any an n cn af m cf l K V1 d ns fs (HS.out V1 hb1).1 HNF.out.2.2.2.1 HNF.out.2.2.2.2.1 HBR.out.2.2.2 (HS.out V1 hb1).2.1
          rw [hdo] at h
          exact h.mono fun e w' q => ⟨q.1, q.2⟩
        have h3o := HV.out.1
        rw [← HSS.out.2] at h3o
        obtain ⟨gv, c3, ev, hcell⟩ := Gm.own_cell h3o (by omega)
        obtain ⟨rfl, -, -⟩ := Value.slice.inj ev
        have hsc : ∀ o x, o < 54 → (Gm.stC mv ts)[o]? = some x → V1.cell? ⟨gv, K * 54 + o, none⟩ = some x := fun o x ho hx => hcell _ _ (by
          rw [Gm.stL_get _ hW49 K o hKs ho, hst]; exact hx)
        have m2 : V1.cell? ⟨gv, K * 54 + 2, none⟩ = some (.int .i64 q1) := by rw [← hq1']; exact hsc 2 _ (by omega) rfl
        have m3 : V1.cell? ⟨gv, K * 54 + 3, none⟩ = some (.int .i64 q2) := by rw [← hq2']; exact hsc 3 _ (by omega) rfl
        have m4 : V1.cell? ⟨gv, K * 54 + 4, none⟩ = some (.int .i64 q3) := by rw [← hq3']; exact hsc 4 _ (by omega) rfl
        have mr : V1.rangeAt gv (K * 54 + 5) (Gm.ints ts) := fun j x hx => by
          have hj : j < 49 := by
            have := (List.getElem?_eq_some_iff.1 hx).1
            rw [Gm.ints_length, hT49] at this; exact this
          have := hsc (5 + j) x (by omega) (by
            show (Gm.mvC _ ++ Gm.ints ts)[5 + j]? = some x
            rw [List.getElem?_append_right (by show 5 ≤ 5 + j; omega)]
            show (Gm.ints ts)[5 + j - 5]? = some x
            rw [show 5 + j - 5 = j by omega]; exact hx)
          rw [show K * 54 + (5 + j) = K * 54 + 5 + j by omega] at this
          exact this
        have HGV : Hid (wr.heap.size ≤ gv ∧ bS < wr.heap.size ∧ bW < wr.heap.size ∧ bS ≠ bW) := by
          refine ⟨?_, Gm.blk_lt HBR.out.2.1, Gm.blk_lt HBR.out.2.2.1, fun e => ?_⟩
          · rcases HV.out.1.2 with ⟨h, -⟩ | ⟨g', cap', cur', e', hB, -⟩
            · cases h
            · obtain ⟨e1', -, -⟩ := Value.slice.inj e'
              injection e1' with e2
              injection e2 with e3
              omega
          · have x1 := HBR.out.2.1
            rw [e, HBR.out.2.2.1] at x1
            injection x1 with x1
            injection x1 with _ x1
            exact absurd x1 (by decide)
        have HM : Hid (V1.rangeAt gv (K * 54 + 5) (Gm.ints ts) ∧ V1.cell? ⟨gv, K * 54 + 2, none⟩ = some (.int .i64 q1) ∧ V1.cell? ⟨gv, K * 54 + 3, none⟩ = some (.int .i64 q2) ∧ V1.cell? ⟨gv, K * 54 + 4, none⟩ = some (.int .i64 q3)) := ⟨mr, m2, m3, m4⟩
        obtain ⟨p0, p1⟩ := HBX.out V1 hb1
        obtain ⟨eT, -, -, -⟩ := HG.out l HBR.out.2.2.2
        obtain ⟨eTs, eRs, h1cs, hi3s⟩ := HG.out ts hT49
        have HE : Hid (p % (q' : Int) = (K : Int) ∧ Below w0.heap.size w0 V1 ∧ ts.length = 49) := ⟨hK, hb1, hT49⟩
        have i0 : (0 : Int) ≤ K := by omega
        have i1 : (K : Int) < q' := by omega
        clear hdo hce mr m2 m3 m4 hsc hcell h3o ev hst hW49 hq1' hq2' hq3' hKs hb1 hK hKq
        go_upto_region 15 with fail
        rw [HE.out.1]
        clear hq1 hq2
        go_wp2_with (first | refine wpList_load_row rfl 29 _ rfl _ rfl 29 (Gm.ints l).toArray (0, 0) _ NS1 huT rfl eT ?_ | fail)
        refine Calls.mono CD.out ?_
        rintro e V2 ⟨rfl, BV2⟩
        clear CD p0 p1 NS1 eT
        have N7a : ((V2.alloc (.cells #[.int .i64 0, .int .i64 0, .int .i64 0, .int .i64 0, .int .i64 0, .int .i64 0, .int .i64 0, .int .i64 0, .int .i64 0, .int .i64 0, .int .i64 0, .int .i64 0, .int .i64 0, .int .i64 0, .int .i64 0, .int .i64 0, .int .i64 0, .int .i64 0, .int .i64 0, .int .i64 0, .int .i64 0, .int .i64 0, .int .i64 0, .int .i64 0, .int .i64 0, .int .i64 0, .int .i64 0, .int .i64 0, .int .i64 0, .int .i64 0, .int .i64 0, .int .i64 0, .int .i64 0, .int .i64 0, .int .i64 0, .int .i64 0, .int .i64 0, .int .i64 0, .int .i64 0, .int .i64 0, .int .i64 0, .int .i64 0, .int .i64 0, .int .i64 0, .int .i64 0, .int .i64 0, .int .i64 0, .int .i64 0, .int .i64 0] 29)).alloc (.cells #[.int .i64 0, .int .i64 0, .int .i64 0] 46)).heap[V2.heap.size]? = some (.cells #[.int .i64 0, .int .i64 0, .int .i64 0, .int .i64 0, .int .i64 0, .int .i64 0, .int .i64 0, .int .i64 0, .int .i64 0, .int .i64 0, .int .i64 0, .int .i64 0, .int .i64 0, .int .i64 0, .int .i64 0, .int .i64 0, .int .i64 0, .int .i64 0, .int .i64 0, .int .i64 0, .int .i64 0, .int .i64 0, .int .i64 0, .int .i64 0, .int .i64 0, .int .i64 0, .int .i64 0, .int .i64 0, .int .i64 0, .int .i64 0, .int .i64 0, .int .i64 0, .int .i64 0, .int .i64 0, .int .i64 0, .int .i64 0, .int .i64 0, .int .i64 0, .int .i64 0, .int .i64 0, .int .i64 0, .int .i64 0, .int .i64 0, .int .i64 0, .int .i64 0, .int .i64 0, .int .i64 0, .int .i64 0, .int .i64 0] 29 (0, 0)) := by rw [Below.heap_alloc _ _ _ (by simp)]; exact heap_alloc_new V2 _
        obtain ⟨V3, hV3⟩ : ∃ z, (((V2.alloc (.cells #[.int .i64 0, .int .i64 0, .int .i64 0, .int .i64 0, .int .i64 0, .int .i64 0, .int .i64 0, .int .i64 0, .int .i64 0, .int .i64 0, .int .i64 0, .int .i64 0, .int .i64 0, .int .i64 0, .int .i64 0, .int .i64 0, .int .i64 0, .int .i64 0, .int .i64 0, .int .i64 0, .int .i64 0, .int .i64 0, .int .i64 0, .int .i64 0, .int .i64 0, .int .i64 0, .int .i64 0, .int .i64 0, .int .i64 0, .int .i64 0, .int .i64 0, .int .i64 0, .int .i64 0, .int .i64 0, .int .i64 0, .int .i64 0, .int .i64 0, .int .i64 0, .int .i64 0, .int .i64 0, .int .i64 0, .int .i64 0, .int .i64 0, .int .i64 0, .int .i64 0, .int .i64 0, .int .i64 0, .int .i64 0, .int .i64 0] 29)).alloc (.cells #[.int .i64 0, .int .i64 0, .int .i64 0] 46)).setRow V2.heap.size (Gm.ints ts).toArray).setRow (V2.heap.size + 1) #[.int .i64 q1, .int .i64 q2, .int .i64 q3] = z := ⟨_, rfl⟩
        have N8b : (((V2.alloc (.cells #[.int .i64 0, .int .i64 0, .int .i64 0, .int .i64 0, .int .i64 0, .int .i64 0, .int .i64 0, .int .i64 0, .int .i64 0, .int .i64 0, .int .i64 0, .int .i64 0, .int .i64 0, .int .i64 0, .int .i64 0, .int .i64 0, .int .i64 0, .int .i64 0, .int .i64 0, .int .i64 0, .int .i64 0, .int .i64 0, .int .i64 0, .int .i64 0, .int .i64 0, .int .i64 0, .int .i64 0, .int .i64 0, .int .i64 0, .int .i64 0, .int .i64 0, .int .i64 0, .int .i64 0, .int .i64 0, .int .i64 0, .int .i64 0, .int .i64 0, .int .i64 0, .int .i64 0, .int .i64 0, .int .i64 0, .int .i64 0, .int .i64 0, .int .i64 0, .int .i64 0, .int .i64 0, .int .i64 0, .int .i64 0, .int .i64 0] 29)).alloc (.cells #[.int .i64 0, .int .i64 0, .int .i64 0] 46)).setRow V2.heap.size (Gm.ints ts).toArray).heap[V2.heap.size + 1]? = some (.cells #[.int .i64 0, .int .i64 0, .int .i64 0] 46 (0, 0)) := by
          rw [setRow_other _ _ _ _ (by omega)]
          have := heap_alloc_new (V2.alloc (.cells #[.int .i64 0, .int .i64 0, .int .i64 0, .int .i64 0, .int .i64 0, .int .i64 0, .int .i64 0, .int .i64 0, .int .i64 0, .int .i64 0, .int .i64 0, .int .i64 0, .int .i64 0, .int .i64 0, .int .i64 0, .int .i64 0, .int .i64 0, .int .i64 0, .int .i64 0, .int .i64 0, .int .i64 0, .int .i64 0, .int .i64 0, .int .i64 0, .int .i64 0, .int .i64 0, .int .i64 0, .int .i64 0, .int .i64 0, .int .i64 0, .int .i64 0, .int .i64 0, .int .i64 0, .int .i64 0, .int .i64 0, .int .i64 0, .int .i64 0, .int .i64 0, .int .i64 0, .int .i64 0, .int .i64 0, .int .i64 0, .int .i64 0, .int .i64 0, .int .i64 0, .int .i64 0, .int .i64 0, .int .i64 0, .int .i64 0] 29)) (.cells #[.int .i64 0, .int .i64 0, .int .i64 0] 46)
          simpa using this
        have N7 : V3.heap[V2.heap.size]? = some (.cells (Gm.ints ts).toArray 29 (0, 0)) := by rw [← hV3, setRow_other _ _ _ _ (by omega)]; exact setRow_heap _ _ _ _ _ _ N7a
        have N8 : V3.heap[V2.heap.size + 1]? = some (.cells #[.int .i64 q1, .int .i64 q2, .int .i64 q3] 46 (0, 0)) := by rw [← hV3]; exact setRow_heap _ _ _ _ _ _ N8b
        have B23 : Below V2.heap.size V2 V3 := by
          rw [← hV3]
          exact Tk.below_row (Tk.below_row (((Below.refl _ V2).alloc (Nat.le_refl _) _).alloc (by simp) _) (Nat.le_refl _) _) (by omega) _
        have hN23 : Hid (V3.heap[V2.heap.size]? = some (.cells (Gm.ints ts).toArray 29 (0, 0)) ∧ V3.heap[V2.heap.size + 1]? = some (.cells #[.int .i64 q1, .int .i64 q2, .int .i64 q3] 46 (0, 0)) ∧ Below V1.heap.size V1 V3) := ⟨N7, N8, BV2.out.trans (B23.mono BV2.out.size)⟩
        have HV3 : Hid _ := hV3
        have eL : (Tryz.prog.info? 46).map (·.size) = some (#[.int .i64 q1, .int .i64 q2, .int .i64 q3] : Array Value).size := by kernel_rfl
        have h1L : (#[.int .i64 q1, .int .i64 q2, .int .i64 q3] : Array Value).all (·.oneCell') = true := by kernel_rfl
        clear N7 N8 B23 hV3
        go_upto_region 16 with (first | refine wpList_store_row rfl 29 _ _ rfl V2.heap.size (Gm.ints ts).toArray rfl rfl 29 _ N7a eTs hi3s h1cs ?_ | refine wpList_store_row rfl 46 _ _ rfl (V2.heap.size + 1) #[.int .i64 q1, .int .i64 q2, .int .i64 q3] rfl rfl 46 _ N8b eL rfl h1L ?_ | fail)
        rw [HV3.out]
        clear HV3 N7a N8b
        obtain ⟨bT, hbT⟩ : ∃ z, V2.heap.size = z := ⟨_, rfl⟩
        rw [hbT] at hN23
        have HbT : Hid _ := hbT
        clear hbT
        rw [HbT.out]
        have eT' : (Tryz.prog.info? 29).map (·.size) = some (Gm.ints ts).length := by rw [Gm.ints_length, HE.out.2.2]; show _ = _; kernel_rfl
        have eR' : (Tryz.prog.info? 32).map (·.size) = some (Gm.ints ts).length := by rw [Gm.ints_length, HE.out.2.2]; show _ = _; kernel_rfl
        have CRF : Hid (∀ W, Below V3.heap.size V3 W → Calls Tryz.prog 8 #[.agg (Gm.ints ts).toArray] W fun e w' => e = .returned (.agg (Gm.ints ts).toArray) ∧ Hid (Below V3.heap.size V3 w')) := fun W hb =>
          (Tryz.lref07_any ts W HE.out.2.2).mono fun e w' q => ⟨q.1, hb.trans (q.2.mono hb.size)⟩
        have HRG : Hid (∀ V, Below V3.heap.size V3 V → V.rangeAt bT 0 (Gm.ints ts) ∧ V.cell? ⟨bT + 1, 0, none⟩ = some (.int .i64 q1) ∧ V.cell? ⟨bT + 1, 1, none⟩ = some (.int .i64 q2) ∧ V.cell? ⟨bT + 1, 2, none⟩ = some (.int .i64 q3) ∧ V.rangeAt gv (K * 54 + 5) (Gm.ints ts) ∧ V.cell? ⟨gv, K * 54 + 2, none⟩ = some (.int .i64 q1) ∧ V.cell? ⟨gv, K * 54 + 3, none⟩ = some (.int .i64 q2) ∧ V.cell? ⟨gv, K * 54 + 4, none⟩ = some (.int .i64 q3)) := fun V hb => by
          have x1 := (hb.block _ (Gm.blk_lt hN23.out.1)).trans hN23.out.1
          have x2 := (hb.block _ (Gm.blk_lt hN23.out.2.1)).trans hN23.out.2.1
          have hb1 : Below V1.heap.size V1 V := hN23.out.2.2.trans (hb.mono hN23.out.2.2.size)
          have hgv : gv < V1.heap.size := World.block_lt_of_cell? _ _ HM.out.2.1
          have hc : ∀ o x, V1.cell? ⟨gv, o, none⟩ = some x → V.cell? ⟨gv, o, none⟩ = some x := fun o x h => (hb1.cell (p := ⟨gv, o, none⟩) hgv).trans h
          refine ⟨fun j v hv => ?_, by simp [World.cell?, x2], by simp [World.cell?, x2], by simp [World.cell?, x2], fun j v hv => hc _ _ (HM.out.1 j v hv), hc _ _ HM.out.2.1, hc _ _ HM.out.2.2.1, hc _ _ HM.out.2.2.2⟩
          simp only [World.cell?, x1, Nat.zero_add]; simpa using hv
        refine wp_region_held_drew (S := (fun V => V.rangeAt bT 0 (Gm.ints ts) ∧ V.cell? ⟨bT + 1, 0, none⟩ = some (.int .i64 q1) ∧ V.cell? ⟨bT + 1, 1, none⟩ = some (.int .i64 q2) ∧ V.cell? ⟨bT + 1, 2, none⟩ = some (.int .i64 q3) ∧ V.rangeAt gv (K * 54 + 5) (Gm.ints ts) ∧ V.cell? ⟨gv, K * 54 + 2, none⟩ = some (.int .i64 q1) ∧ V.cell? ⟨gv, K * 54 + 3, none⟩ = some (.int .i64 q2) ∧ V.cell? ⟨gv, K * 54 + 4, none⟩ = some (.int .i64 q3))) (by kernel_rfl) ?_ (fun hHeld => ?_)
        · exact HRG.out _ (Below.refl _ _).drew
        refine Nt.takeS (v := ?vm0) 0 80 rfl rfl (by kernel_rfl) (by kernel_rfl) (by kernel_rfl) (fun _ _ _ h => h) (Or.inl ⟨by rfl, ?ym0⟩) hHeld ?rm0
        case ym0 => (intro w hSw; (try dsimp only at hSw); go_simp; all_goals (with_reducible rfl))
        simp only [List.set_cons_succ, List.set_cons_zero]
        refine Nt.takeS (v := ?vm1) 1 81 rfl rfl (by kernel_rfl) (by kernel_rfl) (by kernel_rfl) (fun _ _ _ h => h) (Or.inl ⟨by rfl, ?ym1⟩) hHeld ?rm1
        case ym1 => (intro w hSw; (try dsimp only at hSw); go_simp; all_goals (with_reducible rfl))
        simp only [List.set_cons_succ, List.set_cons_zero]
        refine Nt.takeS (v := ?vm2) 2 82 rfl rfl (by kernel_rfl) (by kernel_rfl) (by kernel_rfl) (fun _ _ _ h => h) (Or.inl ⟨by rfl, ?ym2⟩) hHeld ?rm2
        case ym2 => (intro w hSw; (try dsimp only at hSw); go_simp; all_goals (with_reducible rfl))
        simp only [List.set_cons_succ, List.set_cons_zero]
        refine Nt.takeS (v := ?vm3) 3 83 rfl rfl (by kernel_rfl) (by kernel_rfl) (by kernel_rfl) (fun _ _ _ h => h) (Or.inl ⟨by rfl, ?ym3⟩) hHeld ?rm3
        case ym3 => (intro w hSw; (try dsimp only at hSw); go_simp; all_goals (with_reducible rfl))
        simp only [List.set_cons_succ, List.set_cons_zero]
        refine Nt.takeS (v := ?vm4) 4 84 rfl rfl (by kernel_rfl) (by kernel_rfl) (by kernel_rfl) (fun _ _ _ h => h) (Or.inl ⟨by rfl, ?ym4⟩) hHeld ?rm4
        case ym4 => (intro w hSw; (try dsimp only at hSw); go_simp; all_goals (with_reducible rfl))
        simp only [List.set_cons_succ, List.set_cons_zero]
        refine Nt.takeS (v := ?vm5) 5 85 rfl rfl (by kernel_rfl) (by kernel_rfl) (by kernel_rfl) (fun _ _ _ h => h) (Or.inl ⟨by rfl, ?ym5⟩) hHeld ?rm5
        case ym5 => (intro w hSw; (try dsimp only at hSw); go_simp; all_goals (with_reducible rfl))
        simp only [List.set_cons_succ, List.set_cons_zero]
        refine Nt.takeS (v := ?vm6) 6 86 rfl rfl (by kernel_rfl) (by kernel_rfl) (by kernel_rfl) (fun _ _ _ h => h) (Or.inl ⟨by rfl, ?ym6⟩) hHeld ?rm6
        case ym6 => (intro w hSw; (try dsimp only at hSw); go_simp; all_goals (with_reducible rfl))
        simp only [List.set_cons_succ, List.set_cons_zero]
        refine Nt.takeS (v := ?vm7) 7 87 rfl rfl (by kernel_rfl) (by kernel_rfl) (by kernel_rfl) (fun _ _ _ h => h) (Or.inl ⟨by rfl, ?ym7⟩) hHeld ?rm7
        case ym7 => (intro w hSw; (try dsimp only at hSw); go_simp; all_goals (with_reducible rfl))
        simp only [List.set_cons_succ, List.set_cons_zero]
        refine Nt.takeS (v := ?vm8) 8 88 rfl rfl (by kernel_rfl) (by kernel_rfl) (by kernel_rfl) (fun _ _ _ h => h) (Or.inl ⟨by rfl, ?ym8⟩) hHeld ?rm8
        case ym8 => (intro w hSw; (try dsimp only at hSw); go_simp; all_goals (with_reducible rfl))
        simp only [List.set_cons_succ, List.set_cons_zero]
        refine Nt.takeS (v := ?vm9) 9 89 rfl rfl (by kernel_rfl) (by kernel_rfl) (by kernel_rfl) (fun _ _ _ h => h) (Or.inl ⟨by rfl, ?ym9⟩) hHeld ?rm9
        case ym9 => (intro w hSw; (try dsimp only at hSw); go_simp; all_goals (with_reducible rfl))
        simp only [List.set_cons_succ, List.set_cons_zero]
        refine Nt.takeS (v := ?vm10) 10 90 rfl rfl (by kernel_rfl) (by kernel_rfl) (by kernel_rfl) (fun _ _ _ h => h) (Or.inl ⟨by rfl, ?ym10⟩) hHeld ?rm10
        case ym10 => (intro w hSw; (try dsimp only at hSw); go_simp; all_goals (with_reducible rfl))
        simp only [List.set_cons_succ, List.set_cons_zero]
        refine Nt.takeS (v := ?vm11) 11 91 rfl rfl (by kernel_rfl) (by kernel_rfl) (by kernel_rfl) (fun _ _ _ h => h) (Or.inl ⟨by rfl, ?ym11⟩) hHeld ?rm11
        case ym11 => (intro w hSw; (try dsimp only at hSw); go_simp; all_goals (with_reducible rfl))
        simp only [List.set_cons_succ, List.set_cons_zero]
        refine Nt.takeS 12 92 rfl rfl (by kernel_rfl) (by kernel_rfl) (by kernel_rfl) (fun _ _ _ h => h) (yieldsIf_load_mid (by rfl) _ _ rfl _ _ rfl (Gm.ints ts) _ (fun _ hw => hw.1) huT rfl eT') hHeld ?_
        simp only [List.set_cons_succ, List.set_cons_zero]
        refine Nt.takeS (v := ?vm14) 14 94 rfl rfl (by kernel_rfl) (by kernel_rfl) (by kernel_rfl) (fun _ _ _ h => h) (Or.inl ⟨by rfl, ?ym14⟩) hHeld ?rm14
        case ym14 => (intro w hSw; (try dsimp only at hSw); go_simp; all_goals (with_reducible rfl))
        simp only [List.set_cons_succ, List.set_cons_zero]
        refine Nt.takeS (v := ?vm15) 15 95 rfl rfl (by kernel_rfl) (by kernel_rfl) (by kernel_rfl) (fun _ _ _ h => h) (Or.inl ⟨by rfl, ?ym15⟩) hHeld ?rm15
        case ym15 => (intro w hSw; (try dsimp only at hSw); go_simp; all_goals (with_reducible rfl))
        simp only [List.set_cons_succ, List.set_cons_zero]
        refine Nt.takeS (v := ?vm16) 16 96 rfl rfl (by kernel_rfl) (by kernel_rfl) (by kernel_rfl) (fun _ _ _ h => h) (Or.inl ⟨by rfl, ?ym16⟩) hHeld ?rm16
        case ym16 => (intro w hSw; (try dsimp only at hSw); go_simp; all_goals (with_reducible rfl))
        simp only [List.set_cons_succ, List.set_cons_zero]
        refine Nt.takeS (v := ?vm17) 17 97 rfl rfl (by kernel_rfl) (by kernel_rfl) (by kernel_rfl) (fun _ _ _ h => h) (Or.inl ⟨by rfl, ?ym17⟩) hHeld ?rm17
        case ym17 => (intro w hSw; (try dsimp only at hSw); go_simp; all_goals (with_reducible rfl))
        simp only [List.set_cons_succ, List.set_cons_zero]
        refine Nt.takeS 18 98 rfl rfl (by kernel_rfl) (by kernel_rfl) (by kernel_rfl) (fun _ _ _ h => h) (yieldsIf_load_mid (by rfl) _ _ rfl _ _ rfl (Gm.ints ts) _ (fun _ hw => hw.2.2.2.2.1) huR rfl eR') hHeld ?_
        simp only [List.set_cons_succ, List.set_cons_zero]
        refine wpAnyH_ready (rs := [13]) (by kernel_rfl) (by simp) ?_
        refine AllReadyH.cons rfl (fun K hK => ?_) AllReadyH.nil
        rw [if_pos (by rfl)]
        go_simp
        go_at_call 8
        refine Calls.mono (CRF.out _ (Below.refl _ _).drew) ?_
        rintro e V4 ⟨rfl, H4⟩
        go_wp2_with fail
        refine hK.out _ _ ?_ (fun hTe => ?_)
        · exact HRG.out _ H4.out
        clear hK K
        first | refine Nt.normS 93 rfl ?_ | skip
        first | (simp only [List.set_cons_succ, List.set_cons_zero]) | skip
        refine Nt.takeS 19 99 rfl rfl (by kernel_rfl) (by kernel_rfl) (by kernel_rfl) (fun _ _ _ h => h) (yields_ne (by rfl) _ _ rfl ts HE.out.2.2 rfl rfl) hTe ?_
        simp only [List.set_cons_succ, List.set_cons_zero]
        refine Nt.takeS (v := ?vo20) 20 100 rfl rfl (by kernel_rfl) (by kernel_rfl) (by kernel_rfl) (fun _ _ _ h => h) (Or.inl ⟨by rfl, ?yo20⟩) hTe ?ro20
        case yo20 => (intro w hSw; (try dsimp only at hSw); go_simp; all_goals (with_reducible rfl))
        simp only [List.set_cons_succ, List.set_cons_zero]
        refine wpAnyH_done (by kernel_rfl) ?_ _
        have B14 : Below V1.heap.size V1 V4 := hN23.out.2.2.trans (H4.out.mono hN23.out.2.2.size)
        have NT4 := (H4.out.block _ (Gm.blk_lt hN23.out.1)).trans hN23.out.1
        have NS4 : V4.heap[bS]? = some (.cells (Gm.ints l).toArray 29 (0, 0)) := (B14.block _ (Nat.lt_of_lt_of_le HGV.out.2.1 HV.out.2.size)).trans ((HV.out.2.block _ HGV.out.2.1).trans HBR.out.2.1)
        have NW4 : V4.heap[bW]? = some (.cells (Gm.ints l).toArray 32 (0, 0)) := (B14.block _ (Nat.lt_of_lt_of_le HGV.out.2.2.1 HV.out.2.size)).trans ((HV.out.2.block _ HGV.out.2.2.1).trans HBR.out.2.2.1)
        obtain ⟨V5, hV5⟩ : ∃ z, V4.setRow bS (Gm.ints ts).toArray = z := ⟨_, rfl⟩
        obtain ⟨V6, hV6⟩ : ∃ z, V5.setRow bW (Gm.ints ts).toArray = z := ⟨_, rfl⟩
        have r5 : V5.rangeAt gv (K * 54 + 5) (Gm.ints ts) := fun j v hv => by
          have h := (HRG.out V4 H4.out).2.2.2.2.1 j v hv
          rw [← hV5]
          have hne : gv ≠ bS := by have := HGV.out; omega
          rw [World.cell?_of_block (w := V4) (setRow_other V4 bS gv _ hne)]
          exact h
        have NW5 : V5.heap[bW]? = some (.cells (Gm.ints l).toArray 32 (0, 0)) := by rw [← hV5, setRow_other _ _ _ _ (Ne.symm HGV.out.2.2.2)]; exact NW4
        have hsz : (Gm.ints l).toArray.size = (Gm.ints ts).toArray.size := by simp [Gm.ints_length, HBR.out.2.2.2, HE.out.2.2]
        have HEND : Hid (∃ l : List Int, l.length = 49 ∧ V6.heap[bS]? = some (.cells (Gm.ints l).toArray 29 (0, 0)) ∧ V6.heap[bW]? = some (.cells (Gm.ints l).toArray 32 (0, 0)) ∧ Below w0.heap.size w0 V6) := by
          refine ⟨ts, HE.out.2.2, ?_, ?_, ?_⟩
          · rw [← hV6, setRow_other _ _ _ _ HGV.out.2.2.2, ← hV5]; exact setRow_heap _ _ _ _ _ _ NS4
          · rw [← hV6]; exact setRow_heap _ _ _ _ _ _ NW5
          · have b4 : Below w0.heap.size w0 V4 := HE.out.2.1.trans (B14.mono HE.out.2.1.size)
            rw [← hV6, ← hV5]
            exact Tk.below_row (Tk.below_row b4 HBB.out.1 _) HBB.out.2 _
        have HV5 : Hid _ := hV5
        have HV6 : Hid _ := hV6
        clear hV5 hV6 NW4 B14 HRG CRF hTe hHeld HNX
        go_upto_region 19 with (first | refine wpList_load_row rfl 29 _ rfl _ rfl 29 (Gm.ints ts).toArray (0, 0) _ NT4 huT rfl eTs ?_ | refine wpList_store_row rfl 29 _ _ rfl bS (Gm.ints ts).toArray rfl rfl 29 _ NS4 eTs hsz h1cs ?_ | fail)
        rw [HV5.out]
        clear HV5 NT4 NS4
        go_upto_region 20 with (first | refine Gm.load_want (by rfl) 32 _ rfl gv (K * 54 + 5) rfl (Gm.ints ts) _ r5 huR rfl eR' ?_ | refine wpList_store_row rfl 32 _ _ rfl bW (Gm.ints ts).toArray rfl rfl 32 _ NW5 eRs hsz h1cs ?_ | fail)
        rw [HV6.out]
        clear HV6 NW5 r5
        go_wp2
        go_roundg (gk - 1)
        case measure => omega
        case rel => exact ⟨j + 1, by omega, by go_num, HEND.out⟩
      · obtain rfl : j = k := by omega
        have hd1 : decide ((j : Int) < j) = false := decide_eq_false (by omega)
        obtain ⟨l, hl, NS, NW, hbr⟩ := HJ.out
        have HBR : Hid (Below w.heap.size w wr) := (HS.out wr hbr).2.2
        clear HJ hl NS NW hbr
        go_wp2_with fail
        refine Calls.mono (HLN.out wr HBR.out) ?_
        rintro e V1 ⟨rfl, BV⟩
        go_wp2
        go_ret
        exact ⟨rfl, BV.out⟩
  · have e0 : ((r : Int) != 0) = true := by simpa using hr
    obtain rfl : Gm.zeros = S := by rw [← hS]; unfold Gm.startS; rw [hru, if_pos (show (r, q).1 ≠ 0 from hr)]
    obtain rfl : 4 = E := by rw [← hE]; unfold Gm.startE; rw [hru, if_pos (show (r, q).1 ≠ 0 from hr)]
    have N4 := HB4.out.2
    have heq : ∀ W : World, (binOp BinOp.eql 29 (.agg (Gm.ints Gm.zeros).toArray) (.agg #[.int .i64 0, .int .i64 0, .int .i64 0, .int .i64 0, .int .i64 0, .int .i64 0, .int .i64 0, .int .i64 0, .int .i64 0, .int .i64 0, .int .i64 0, .int .i64 0, .int .i64 0, .int .i64 0, .int .i64 0, .int .i64 0, .int .i64 0, .int .i64 0, .int .i64 0, .int .i64 0, .int .i64 0, .int .i64 0, .int .i64 0, .int .i64 0, .int .i64 0, .int .i64 0, .int .i64 0, .int .i64 0, .int .i64 0, .int .i64 0, .int .i64 0, .int .i64 0, .int .i64 0, .int .i64 0, .int .i64 0, .int .i64 0, .int .i64 0, .int .i64 0, .int .i64 0, .int .i64 0, .int .i64 0, .int .i64 0, .int .i64 0, .int .i64 0, .int .i64 0, .int .i64 0, .int .i64 0, .int .i64 0, .int .i64 0])).run Tryz.prog W = .ok (.bool true) W := fun _ => by kernel_rfl
    have B4w : Hid (Below w.heap.size w W4) := HA.out.trans (HB4.out.1.mono HA.out.size)
    have r4 : W4.rangeAt W2.heap.size 0 (Gm.ints Gm.zeros) := fun j v hv => by simp only [World.cell?, N4, Nat.zero_add]; simpa using hv
    have eT' : (Tryz.prog.info? 29).map (·.size) = some (Gm.ints Gm.zeros).length := by kernel_rfl
    go_wp2_with (first | refine Gm.load_want (by rfl) 29 _ rfl W2.heap.size 0 rfl (Gm.ints Gm.zeros) _ r4 huT rfl eT' ?_ | fail)
    refine Calls.mono (HLN.out W4 B4w.out) ?_
    rintro e W5 ⟨rfl, B5⟩
    clear HLN
    go_wp2
    go_ret
    exact ⟨rfl, B5.out⟩
end Go.Proofs.YtndfbgfpnjnmlaaGreatDoor.TokenRuns
