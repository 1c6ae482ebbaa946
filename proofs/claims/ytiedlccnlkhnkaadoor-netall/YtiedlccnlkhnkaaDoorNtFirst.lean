/-
  IndexFunc over nodes; first, Start, End.
-/
import Derived.Test.YtiedlccnlkhnkaaDoorNtModel
import Derived.Test.YtiedlccnlkhnkaaDoorTOps
import Derived.Shelf.Abstract
import Derived.Lib.Hide
namespace Go.Proofs
open Go.RowKit Go.Shelf

/-- The first place of which it holds. -/
def Nt.findI {α : Type} (p : α → Bool) (l : List α) : Int := match l.findIdx? p with
  | some i => (i : Int)
  | none => -1
theorem Nt.firstI_eq (ns : List Nd) (k : Int) : Nt.firstI ns k = Nt.findI (fun x => decide (x.kind = k)) ns := rfl
theorem Nt.findI_at {α : Type} {p : α → Bool} {l : List α} {k : Nat} (hk : k < l.length) (h : (l.take k).any p = false) (hp : p l[k] = true) : Nt.findI p l = k := by
  have : l.findIdx? p = some k := by
    refine List.findIdx?_eq_some_iff_getElem.2 ⟨hk, hp, fun j hj => ?_⟩
    have h2 := List.any_eq_false.1 h l[j] (by
      refine List.mem_iff_getElem.2 ⟨j, by simp; omega, by simp⟩)
    simpa using h2
  rw [Nt.findI, this]
theorem Nt.findI_none {α : Type} {p : α → Bool} {l : List α} (h : l.any p = false) : Nt.findI p l = -1 := by
  have : l.findIdx? p = none := List.findIdx?_eq_none_iff.2 fun x hx => by simpa using List.any_eq_false.1 h x hx
  rw [Nt.findI, this]
theorem Nt.findI_any {α : Type} (p : α → Bool) (l : List α) : decide (0 ≤ Nt.findI p l) = l.any p := by
  cases h : l.any p with
  | false => rw [Nt.findI_none h]; rfl
  | true =>
    obtain ⟨x, hx, hp⟩ := List.any_eq_true.1 h
    unfold Nt.findI
    split
    · exact decide_eq_true (by omega)
    · next hn => have := List.findIdx?_eq_none_iff.1 hn x hx; rw [hp] at this; cases this

/-- What is asked of a predicate over nodes. -/
def Nt.Pred (g : Nat) (lb : Array Value) (p : Nd → Bool) (ns : List Nd) (w : World) : Prop :=
  ∀ (W : World) (x : Nd) (a : Option Addr) (n c : Nat), x ∈ ns → Below w.heap.size w W → Calls Tryd.prog g (#[.agg #[.int .i64 x.kind, .int .i64 x.a, .int .i64 x.t.op, .int .i64 x.t.num, .slice a n c]] ++ lb) W fun e w' => e = .returned (.bool (p x)) ∧ Below w.heap.size w w'

set_option maxRecDepth 20000 in
set_option maxHeartbeats 2000000 in
theorem Tryd.nindex_any (p : Nd → Bool) (g : Nat) (lb : Array Value) (eg : ∀ args w, (callFunc g args).run Tryd.prog w = .ok (.enter g args) w) (a : Option Addr) (c d : Nat) (ns : List Nd) (w : World)
    (hp : Nt.Pred g lb p ns w) (hE : Nt.Nds w w.heap.size d a ns) (hn : ns.length ≤ 100) :
    Calls Tryd.prog 75 #[.slice a ns.length c, .func (.func g) #[] lb] w fun e w' => e = .returned (.int .i64 (Nt.findI p ns)) ∧ Below w.heap.size w w' := by
  obtain ⟨n, hnn⟩ : ∃ n, ns.length = n := ⟨_, rfl⟩
  rw [hnn] at hn ⊢
  obtain ⟨r, hr⟩ : ∃ r, Nt.findI p ns = r := ⟨_, rfl⟩
  rw [hr]
  have HR : Hid (Nt.findI p ns = r) := hr
  have HP : Hid (Nt.Pred g lb p ns w) := hp
  have HE : Hid (Nt.Nds w w.heap.size d a ns ∧ ns.length = n) := ⟨hE, hnn⟩
  clear hp hE hnn hr
  go_enter Tryd.func75, Tryd.ntmps75
  go_wp2
  go_loopg [5, 8] n (fun gk _ s8 wr => ∃ k : Nat, gk + k = n ∧ s8 = .int .i64 k ∧ Hid (Below w.heap.size w wr ∧ (ns.take k).any p = false))
  case atStart => exact ⟨0, by omega, rfl, Below.refl _ w, by simp⟩
  case round =>
    obtain ⟨k, hk, rfl, HB⟩ := hrel
    by_cases hlt : k < n
    · have hd : decide ((k : Int) < n) = true := decide_eq_true (by omega)
      have hkl : k < ns.length := by rw [HE.out.2]; exact hlt
      obtain ⟨q, off, u, rfl, hq, h0, h1, h2, h3, h4, h5⟩ := HE.out.1 k hkl
      obtain ⟨au, cu, rfl⟩ := h5.shape
      obtain ⟨nu, hnu⟩ : ∃ n, ns[k].t.ks.length = n := ⟨_, rfl⟩
      rw [hnu] at h4
      obtain ⟨x0, hx0⟩ : ∃ x, ns[k].kind = x := ⟨_, rfl⟩
      obtain ⟨x1, hx1⟩ : ∃ x, ns[k].a = x := ⟨_, rfl⟩
      obtain ⟨x2, hx2⟩ : ∃ x, ns[k].t.op = x := ⟨_, rfl⟩
      obtain ⟨x3, hx3⟩ : ∃ x, ns[k].t.num = x := ⟨_, rfl⟩
      have hcall := HP.out wr ns[k] au nu cu (List.getElem_mem hkl) HB.out.1
      rw [hx0, hx1, hx2, hx3] at hcall
      have hc : ∀ o, wr.cell? ⟨q, o, none⟩ = w.cell? ⟨q, o, none⟩ := fun o => HB.out.1.cell (p := ⟨q, o, none⟩) hq
      have hc0 : wr.cell? ⟨q, off + k * 5, none⟩ = some (.int .i64 x0) := by rw [hc, ← hx0]; exact h0
      have hc1 : wr.cell? ⟨q, off + k * 5 + 1, none⟩ = some (.int .i64 x1) := by rw [hc, ← hx1]; exact h1
      have hc2 : wr.cell? ⟨q, off + k * 5 + 2, none⟩ = some (.int .i64 x2) := by rw [hc, ← hx2]; exact h2
      have hc3 : wr.cell? ⟨q, off + k * 5 + 3, none⟩ = some (.int .i64 x3) := by rw [hc, ← hx3]; exact h3
      have hc4 : wr.cell? ⟨q, off + k * 5 + 4, none⟩ = some (.slice au nu cu) := by rw [hc]; exact h4
      have hu := Tryd.underlying34
      clear h0 h1 h2 h3 h4 h5 hc hx0 hx1 hx2 hx3 hnu hq
      cases hq : p ns[k] with
      | true =>
        rw [hq] at hcall
        have HQ : Hid (p ns[k] = true) := hq
        have HC : Hid _ := hcall
        clear hq hcall
        go_wp2_with fail
        refine Calls.mono HC.out ?_
        rintro e w' ⟨rfl, hb'⟩
        have HW : Hid (Below w.heap.size w w') := hb'
        clear hb' HC
        go_wp2
        go_ret
        exact ⟨Tk.ret_int ((Nt.findI_at hkl HB.out.2 HQ.out).symm.trans HR.out), HW.out⟩
      | false =>
        rw [hq] at hcall
        have HQ : Hid (p ns[k] = false) := hq
        have HC : Hid _ := hcall
        clear hq hcall
        go_wp2_with fail
        refine Calls.mono HC.out ?_
        rintro e w' ⟨rfl, hb'⟩
        have HW : Hid (Below w.heap.size w w') := hb'
        clear hb' HC
        go_wp2
        go_roundg (gk - 1)
        case measure => omega
        case rel =>
          refine ⟨k + 1, by omega, by go_num, HW.out, ?_⟩
          rw [Tm.take_snoc _ _ hkl, List.any_append, HB.out.2]
          simp [HQ.out]
    · have hd : decide ((k : Int) < n) = false := decide_eq_false (by omega)
      go_wp2
      go_ret
      have := HB.out.2
      rw [List.take_of_length_le (by rw [HE.out.2]; omega)] at this
      exact ⟨Tk.ret_int ((Nt.findI_none this).symm.trans HR.out), HB.out.1⟩

set_option maxHeartbeats 1600000 in
theorem Tryd.first1_any (k kind a op num : Int) (x : Option Addr) (n c b : Nat) (w : World) (hb : b < w.heap.size) (hc : w.cell? ⟨b, 0, none⟩ = some (.int .i64 k)) :
    Calls Tryd.prog 76 #[.agg #[.int .i64 kind, .int .i64 a, .int .i64 op, .int .i64 num, .slice x n c], .pointer (some ⟨b, 0, none⟩)] w fun e w' => e = .returned (.bool (decide (kind = k))) ∧ Below w.heap.size w w' := by
  have B0 : Hid (Below w.heap.size w (w.alloc (.cells #[.int .i64 kind, .int .i64 a, .int .i64 op, .int .i64 num, .slice x n c] 34))) := (Below.refl _ w).alloc (Nat.le_refl _) _
  have hc' : (w.alloc (.cells #[.int .i64 kind, .int .i64 a, .int .i64 op, .int .i64 num, .slice x n c] 34)).cell? ⟨b, 0, none⟩ = some (.int .i64 k) := by rw [B0.out.cell (p := ⟨b, 0, none⟩) hb]; exact hc
  have hne : b ≠ w.heap.size := by omega
  clear hb
  go_enter Tryd.func76, Tryd.ntmps76
  go_wp2
  go_ret
  exact ⟨Tk.ret_bool rfl, B0.out⟩

theorem Nt.enters_first : ∀ args w, (callFunc 76 args).run Tryd.prog w = .ok (.enter 76 args) w := enters_of Tryd.func76 (by kernel_rfl) rfl

set_option maxHeartbeats 1600000 in
theorem Tryd.first_any (k : Int) (an : Option Addr) (cn d : Nat) (af : Option Addr) (m cf : Nat) (ns : List Nd) (w : World) (hE : Nt.Nds w w.heap.size d an ns) (hn : ns.length ≤ 100) :
    Calls Tryd.prog 54 #[.agg #[.slice an ns.length cn, .slice af m cf], .int .i64 k] w fun e w' => e = .returned (.int .i64 (Nt.firstI ns k)) ∧ Below w.heap.size w w' := by
  obtain ⟨w1, hw1⟩ : ∃ x, (w.alloc (.cells #[.slice an ns.length cn, .slice af m cf] 25)).alloc (.cells #[.int .i64 k] 3) = x := ⟨_, rfl⟩
  have A1 : Below w.heap.size w w1 := by rw [← hw1]; exact ((Below.refl _ w).alloc (Nat.le_refl _) _).alloc (by simp) _
  have hs1 : w1.heap.size = w.heap.size + 2 := by rw [← hw1]; simp
  have C1 : w1.cell? ⟨w.heap.size + 1, 0, none⟩ = some (.int .i64 k) := by
    rw [← hw1]
    have := heap_alloc_new (w.alloc (.cells #[.slice an ns.length cn, .slice af m cf] 25)) (.cells #[.int .i64 k] 3)
    simp at this
    simp [World.cell?, this]
  have h := Tryd.nindex_any (fun x => decide (x.kind = k)) 76 #[.pointer (some ⟨w.heap.size + 1, 0, none⟩)] Nt.enters_first an cn d ns w1 (fun W x a n c _ hb => by
    have h := Tryd.first1_any k x.kind x.a x.t.op x.t.num a n c (w.heap.size + 1) W (by have := hb.size; omega) (by rw [hb.cell (p := ⟨w.heap.size + 1, 0, none⟩) (by show w.heap.size + 1 < w1.heap.size; omega)]; exact C1)
    exact h.mono fun e w' h => ⟨h.1, hb.trans (h.2.mono hb.size)⟩) ((hE.below A1).wider A1.size) hn
  rw [← Nt.firstI_eq] at h
  obtain ⟨r, hr⟩ : ∃ r, Nt.firstI ns k = r := ⟨_, rfl⟩
  obtain ⟨n, hnn⟩ : ∃ n, ns.length = n := ⟨_, rfl⟩
  rw [hr, hnn] at h
  rw [hr, hnn]
  rw [hnn] at hw1
  have HC : Hid _ := h
  have H1 : Hid ((w.alloc (.cells #[.slice an n cn, .slice af m cf] 25)).alloc (.cells #[.int .i64 k] 3) = w1) := hw1
  have HA : Hid (Below w.heap.size w w1) := A1
  clear h hE hn hr hnn hw1 A1 hs1 C1
  go_enter Tryd.func54, Tryd.ntmps54
  go_wp2_with fail
  rw [H1.out]
  refine Calls.mono HC.out ?_
  rintro e W ⟨rfl, hb⟩
  have B2 : Hid (Below w.heap.size w W) := HA.out.trans (hb.mono HA.out.size)
  clear hb HC
  go_wp2
  go_ret
  exact ⟨rfl, B2.out⟩

set_option maxHeartbeats 800000 in
theorem Tryd.nStart_any (an : Option Addr) (cn d : Nat) (af : Option Addr) (m cf : Nat) (ns : List Nd) (w : World) (hE : Nt.Nds w w.heap.size d an ns) (hn : ns.length ≤ 100) :
    Calls Tryd.prog 62 #[.agg #[.slice an ns.length cn, .slice af m cf]] w fun e w' => e = .returned (.int .i64 (Nt.firstI ns 1)) ∧ Below w.heap.size w w' := by
  have A1 : Below w.heap.size w (w.alloc (.cells #[.slice an ns.length cn, .slice af m cf] 25)) := (Below.refl _ w).alloc (Nat.le_refl _) _
  have h := Tryd.first_any 1 an cn d af m cf ns _ ((hE.below A1).wider A1.size) hn
  obtain ⟨r, hr⟩ : ∃ r, Nt.firstI ns 1 = r := ⟨_, rfl⟩
  obtain ⟨n, hnn⟩ : ∃ n, ns.length = n := ⟨_, rfl⟩
  rw [hr, hnn] at h
  rw [hr, hnn]
  rw [hnn] at A1
  have HC : Hid _ := h
  have HA : Hid _ := A1
  clear h hE hn hr hnn A1
  go_enter Tryd.func62, Tryd.ntmps62
  go_wp2_with fail
  refine Calls.mono HC.out ?_
  rintro e W ⟨rfl, hb⟩
  have B2 : Hid (Below w.heap.size w W) := HA.out.trans (hb.mono HA.out.size)
  clear hb HC
  go_wp2
  go_ret
  exact ⟨rfl, B2.out⟩

set_option maxHeartbeats 800000 in
theorem Tryd.nEnd_any (an : Option Addr) (cn d : Nat) (af : Option Addr) (m cf : Nat) (ns : List Nd) (w : World) (hE : Nt.Nds w w.heap.size d an ns) (hn : ns.length ≤ 100) :
    Calls Tryd.prog 30 #[.agg #[.slice an ns.length cn, .slice af m cf]] w fun e w' => e = .returned (.int .i64 (Nt.firstI ns 2)) ∧ Below w.heap.size w w' := by
  have A1 : Below w.heap.size w (w.alloc (.cells #[.slice an ns.length cn, .slice af m cf] 25)) := (Below.refl _ w).alloc (Nat.le_refl _) _
  have h := Tryd.first_any 2 an cn d af m cf ns _ ((hE.below A1).wider A1.size) hn
  obtain ⟨r, hr⟩ : ∃ r, Nt.firstI ns 2 = r := ⟨_, rfl⟩
  obtain ⟨n, hnn⟩ : ∃ n, ns.length = n := ⟨_, rfl⟩
  rw [hr, hnn] at h
  rw [hr, hnn]
  rw [hnn] at A1
  have HC : Hid _ := h
  have HA : Hid _ := A1
  clear h hE hn hr hnn A1
  go_enter Tryd.func30, Tryd.ntmps30
  go_wp2_with fail
  refine Calls.mono HC.out ?_
  rintro e W ⟨rfl, hb⟩
  have B2 : Hid (Below w.heap.size w W) := HA.out.trans (hb.mono HA.out.size)
  clear hb HC
  go_wp2
  go_ret
  exact ⟨rfl, B2.out⟩

end Go.Proofs
