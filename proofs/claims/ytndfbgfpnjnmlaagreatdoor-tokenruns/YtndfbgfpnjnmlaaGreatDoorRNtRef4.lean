import Derived.Test.YtndfbgfpnjnmlaaGreatDoorRNtRef2
import Derived.Deep.OwnRows
import Derived.WalkMore
namespace Go.Proofs
open Go.RowKit Go.Shelf
theorem Nt.count_both (p q : Fl → Bool) (fs : List Fl) : ((List.range fs.length).filter fun k => ((fs[k]?.map p).getD false)).countP (fun k => ((fs[k]?.map q).getD false)) = fs.countP fun f => p f && q f := by
 rw [List.countP_filter, List.countP_eq_length_filter, ← Nt.filter_len]
 congr 1
 refine List.filter_congr fun k hk => ?_
 rw [List.getElem?_eq_getElem (List.mem_range.1 hk)]
 simp [Bool.and_comm]
def Nt.elsAt (fs : List Fl) (k : Nat) : Bool := ((fs[k]?.map Fl.els).getD false)
def Nt.othAt (ns : List Nd) (fs : List Fl) (k : Nat) : Bool := ((fs[k]?.map fun f => !decide (Nt.kindAt ns f.to.toNat = 8)).getD false)
theorem Nt.elses_outs (fs : List Fl) (i : Int) : (Nt.outsL fs i).countP (Nt.elsAt fs) = Nt.elsesN fs i := by
 rw [Nt.outsL_eq]
 exact Nt.count_both (fun f => decide (f.fr = i)) Fl.els fs
theorem Nt.others_outs (ns : List Nd) (fs : List Fl) (i : Int) : (Nt.outsL fs i).countP (Nt.othAt ns fs) = Nt.othersN ns fs i := by
 rw [Nt.outsL_eq]
 exact Nt.count_both (fun f => decide (f.fr = i)) (fun f => !decide (Nt.kindAt ns f.to.toNat = 8)) fs
theorem Nt.outs_lt (fs : List Fl) (i : Int) (j : Nat) (h : j < (Nt.outsL fs i).length) : (Nt.outsL fs i)[j] < fs.length := by
 have := List.getElem_mem h
 unfold Nt.outsL at this
 exact List.mem_range.1 (List.mem_filter.1 this).1
theorem Nt.own_cell {w : World} {B : Nat} {v : Value} {l : List Nat} (h : w.ownsRow B 3 1 v l.length (Rk.nums l)) : ∃ a c, v = .slice a l.length c ∧ ∀ j (hj : j < l.length), ∃ g, a = some ⟨g, 0, none⟩ ∧ g < w.heap.size ∧ w.cell? ⟨g, j, none⟩ = some (.int .i64 l[j]) := by
 rcases h.2 with ⟨hv, hn⟩ | ⟨g, cap, cur, hv, _, hg, h1, _, _, h2⟩
 ·exact ⟨none, 0, by rw [hv, hn], fun j hj => by omega⟩
 ·refine ⟨_, _, hv, fun j hj => ⟨g, rfl, (Array.getElem?_eq_some_iff.1 hg).1, ?_⟩⟩
  have : cur[j]? = some (.int .i64 l[j]) := by
   have h3 : (cur.toList.take (l.length * 1))[j]? = (Rk.nums l)[j]? := by rw [h2]
   rw [List.getElem?_take_of_lt (by omega)] at h3
   rw [← Array.getElem?_toList, h3]
   simp [Rk.nums, hj]
  unfold World.cell?
  rw [hg]
  exact this
set_option maxRecDepth 20000 in
set_option maxHeartbeats 8000000 in
theorem Tryz.rthree_any (i : Nat) (an : Option Addr) (cn : Nat) (af : Option Addr) (cf d : Nat) (ns : List Nd) (fs : List Fl) (w : World) (hH : Nt.Has w w.heap.size d an af ns fs) (hto : ∀ f, f ∈ fs → 0 ≤ f.to ∧ f.to < ns.length) (hi : i < ns.length) :
  Calls Tryz.prog 35 #[.agg #[.slice an ns.length cn, .slice af fs.length cf], .int .i64 i] w fun e w' => e = .returned (.bool (Nt.threeB ns fs i)) ∧ Below w.heap.size w w' := by
 obtain ⟨W0, hW0⟩ : ∃ x, w.alloc (.cells #[.slice an ns.length cn, .slice af fs.length cf] 25) = x := ⟨_, rfl⟩
 have A0 : Below w.heap.size w W0 := by rw [← hW0]; exact (Below.refl _ w).alloc (Nat.le_refl _) _
 have G0 : W0.heap[w.heap.size]? = some (.cells #[.slice an ns.length cn, .slice af fs.length cf] 25 (0, 0)) := by rw [← hW0]; exact heap_alloc_new w _
 have hins : ∀ W, Below W0.heap.size W0 W → Calls Tryz.prog 43 #[.agg #[.slice an ns.length cn, .slice af fs.length cf], .int .i64 i] W fun e w' => ∃ a c, e = .returned (.slice a (Nt.insN fs i) c) ∧ Hid (Below W0.heap.size W0 w') := fun W hb => by
  have hbw := A0.trans (hb.mono A0.size)
  exact (Tryz.rIns_any i an ns.length cn af cf d fs W ((hH.fls.below hbw).wider hbw.size) hH.flen).mono fun e w' h => by
   obtain ⟨x, hx, ho, hbb⟩ := h
   obtain ⟨a, c, rfl⟩ := Rk.own_shape ho
   rw [Nt.insL_len] at hx
   exact ⟨a, c, hx, hb.trans (hbb.mono hb.size)⟩
 have houts : ∀ W, Below W0.heap.size W0 W → Calls Tryz.prog 37 #[.agg #[.slice an ns.length cn, .slice af fs.length cf], .int .i64 i] W fun e w' => ∃ a c, e = .returned (.slice a (Nt.outsL fs i).length c) ∧ Hid (Below W0.heap.size W0 w' ∧ ∀ j x, (Nt.outsL fs i)[j]? = some x → ∃ g, a = some ⟨g, 0, none⟩ ∧ g < w'.heap.size ∧ w'.cell? ⟨g, j, none⟩ = some (.int .i64 ((x : Nat) : Int))) := fun W hb => by
  have hbw := A0.trans (hb.mono A0.size)
  exact (Tryz.rOuts_any i an ns.length cn af cf d fs W ((hH.fls.below hbw).wider hbw.size) hH.flen).mono fun e w' h => by
   obtain ⟨x, hx, ho, hbb⟩ := h
   obtain ⟨a, c, rfl, hcs⟩ := Nt.own_cell ho
   refine ⟨a, c, hx, hb.trans (hbb.mono hb.size), fun j x hjx => ?_⟩
   obtain ⟨hj, rfl⟩ := List.getElem?_eq_some_iff.1 hjx
   exact hcs j hj
 have hnk : ∀ x : Nat, x < ns.length → ∃ g o2, an = some ⟨g, o2, none⟩ ∧ g < w.heap.size ∧ ∀ W, Below w.heap.size w W → W.cell? ⟨g, o2 + x * 5, none⟩ = some (.int .i64 (Nt.kindAt ns x)) := fun x hx => by
  obtain ⟨g, o2, u', e1, e2, e3, _⟩ := hH.nds x hx
  exact ⟨g, o2, e1, e2, fun W hb => by rw [hb.cell (p := ⟨g, o2 + x * 5, none⟩) e2, Nt.kindAt_get ns x hx]; exact e3⟩
 have hfk : ∀ k : Nat, k < fs.length → ∃ g o2 x, af = some ⟨g, o2, none⟩ ∧ g < w.heap.size ∧ x < ns.length ∧ Nt.othAt ns fs k = !decide (Nt.kindAt ns x = 8) ∧ ∀ W, Below w.heap.size w W → W.cell? ⟨g, o2 + k * 6 + 1, none⟩ = some (.int .i64 ((x : Nat) : Int)) ∧ W.cell? ⟨g, o2 + k * 6 + 2, none⟩ = some (.bool (Nt.elsAt fs k)) := fun k hk => by
  obtain ⟨g, o2, u', e1, e2, e3, e4, e5, _⟩ := hH.fls k hk
  have ht := hto _ (List.getElem_mem hk)
  refine ⟨g, o2, fs[k].to.toNat, e1, e2, by omega, by simp [Nt.othAt, List.getElem?_eq_getElem hk], fun W hb => ⟨?_, ?_⟩⟩
  ·rw [hb.cell (p := ⟨g, o2 + k * 6 + 1, none⟩) e2, Int.toNat_of_nonneg ht.1]; exact e4
  ·rw [hb.cell (p := ⟨g, o2 + k * 6 + 2, none⟩) e2, Nt.elsAt, List.getElem?_eq_getElem hk]; exact e5
 have hbd : Nt.insN fs i ≤ 100 ∧ (Nt.outsL fs i).length ≤ 100 := by
  have := hH.flen
  rw [Nt.outsL_len]
  unfold Nt.insN Nt.outsN
  exact ⟨Nat.le_trans List.countP_le_length this, Nat.le_trans List.countP_le_length this⟩
 have hfl := hH.flen
 have hnl := hH.nlen
 have hoL : ∀ j (h : j < (Nt.outsL fs i).length), (Nt.outsL fs i)[j] < fs.length := Nt.outs_lt fs i
 have hthree : Nt.threeB ns fs i = Nt.joinB (Nt.kindAt ns i) (Nt.insN fs i) (Nt.outsL fs i).length ((Nt.outsL fs i).countP (Nt.elsAt fs)) ((Nt.outsL fs i).countP (Nt.othAt ns fs)) := by
  rw [Nt.elses_outs, Nt.others_outs, Nt.outsL_len]; rfl
 obtain ⟨L, hL⟩ : ∃ l, Nt.outsL fs i = l := ⟨_, rfl⟩
 obtain ⟨a, ha⟩ : ∃ l, Nt.insN fs i = l := ⟨_, rfl⟩
 obtain ⟨k, hk⟩ : ∃ l, Nt.kindAt ns i = l := ⟨_, rfl⟩
 obtain ⟨n, hnn⟩ : ∃ n, ns.length = n := ⟨_, rfl⟩
 obtain ⟨m, hmm⟩ : ∃ n, fs.length = n := ⟨_, rfl⟩
 obtain ⟨r, hr⟩ : ∃ r, Nt.threeB ns fs i = r := ⟨_, rfl⟩
 rw [hL, ha, hk, hr] at hthree
 rw [ha] at hins
 simp only [hL] at houts hoL
 rw [hL, ha] at hbd
 obtain ⟨b, hb⟩ : ∃ l, L.length = l := ⟨_, rfl⟩
 rw [hb] at houts hbd hthree
 rw [hnn, hmm] at hins houts hW0 G0
 rw [hmm] at hfl
 rw [hnn] at hnl hi
 rw [hr, hnn, hmm]
 have CI : Hid _ := hins
 have CO : Hid _ := houts
 have NK : Hid (∀ x : Nat, x < n → ∃ g o2, an = some ⟨g, o2, none⟩ ∧ g < w.heap.size ∧ ∀ W, Below w.heap.size w W → W.cell? ⟨g, o2 + x * 5, none⟩ = some (.int .i64 (Nt.kindAt ns x))) := fun x hx => hnk x (by omega)
 have FK : Hid (∀ k : Nat, k < m → ∃ g o2 x, af = some ⟨g, o2, none⟩ ∧ g < w.heap.size ∧ x < n ∧ Nt.othAt ns fs k = !decide (Nt.kindAt ns x = 8) ∧ ∀ W, Below w.heap.size w W → W.cell? ⟨g, o2 + k * 6 + 1, none⟩ = some (.int .i64 ((x : Nat) : Int)) ∧ W.cell? ⟨g, o2 + k * 6 + 2, none⟩ = some (.bool (Nt.elsAt fs k))) := fun k hk => by
  obtain ⟨g, o2, x, h1, h2, h3, h4⟩ := hfk k (by omega)
  exact ⟨g, o2, x, h1, h2, by omega, h4⟩
 have HX : Hid (∀ W, Below W0.heap.size W0 W → W.cell? ⟨w.heap.size, 0, none⟩ = some (.slice an n cn) ∧ W.cell? ⟨w.heap.size, 1, none⟩ = some (.slice af m cf) ∧ Below w.heap.size w W) := fun W hb => by
  obtain ⟨p0, p1⟩ := Nt.box2 ((hb.block _ (Nt.lt_of G0)).trans G0)
  exact ⟨p0, p1, A0.trans (hb.mono A0.size)⟩
 have HL : Hid ((∀ j (h : j < L.length), L[j] < m) ∧ L.length = b ∧ Nt.kindAt ns i = k) := ⟨fun j h => by have := hoL j h; omega, hb, hk⟩
 have HT : Hid (r = Nt.joinB k a b (L.countP (Nt.elsAt fs)) (L.countP (Nt.othAt ns fs))) := hthree
 have HW0 : Hid (w.alloc (.cells #[.slice an n cn, .slice af m cf] 25) = W0) := hW0
 have BR : Hid (Below W0.heap.size W0 W0) := Below.refl _ _
 have hi' : (i : Int) < n := by omega
 have hi0 : (0 : Int) ≤ i := by omega
 obtain ⟨hba, hbb⟩ := hbd
 have HWL : Hid (w.heap.size < W0.heap.size) := Nt.lt_of G0
 clear hH hto hins houts hnk hfk hoL hthree hL ha hk hnn hmm hr hb hW0 A0 G0
 go_enter Tryz.func35, Tryz.ntmps35
 go_wp2_with fail
 rw [HW0.out]
 refine Calls.mono (CI.out W0 BR.out) ?_
 rintro e W1 ⟨a1, c1, rfl, B1⟩
 obtain ⟨p0, p1, -⟩ := HX.out W1 B1.out
 clear CI HW0
 go_wp2_with fail
 refine Calls.mono (CO.out W1 B1.out) ?_
 rintro e W2 ⟨a2, c2, rfl, B2⟩
 clear CO p0 p1
 go_wp2
 go_loopg [8, 9, 11, 23] b (fun gk s8 s9 _ s23 wr => ∃ (j el ot : Nat), gk + j = b ∧ s23 = .int .i64 j ∧ s8 = .int .i64 el ∧ s9 = .int .i64 ot ∧ el ≤ j ∧ ot ≤ j ∧ Hid (Below w.heap.size w wr ∧ Below W2.heap.size W2 wr ∧ (L.take j).countP (Nt.elsAt fs) = el ∧ (L.take j).countP (Nt.othAt ns fs) = ot))
 case atStart => exact ⟨0, 0, 0, by omega, rfl, rfl, rfl, Nat.le_refl _, Nat.le_refl _, (HX.out W2 B2.out.1).2.2, Below.refl _ _, by simp, by simp⟩
 case round =>
  obtain ⟨j, el, ot, hj, rfl, rfl, rfl, he, ho, HI⟩ := hrel
  have hwbx : Below W0.heap.size W0 wr := B2.out.1.trans (HI.out.2.1.mono B2.out.1.size)
  obtain ⟨p0, p1, -⟩ := HX.out wr hwbx
  clear hwbx
  by_cases hlt : j < b
  ·have hd : decide ((j : Int) < b) = true := decide_eq_true (by omega)
   have hjL : j < L.length := by rw [HL.out.2.1]; exact hlt
   obtain ⟨gq, rfl, hgq, hcq⟩ := B2.out.2 j L[j] (List.getElem?_eq_getElem hjL)
   have hkm := HL.out.1 j hjL
   obtain ⟨kk, hkk⟩ : ∃ z, L[j] = z := ⟨_, rfl⟩
   rw [hkk] at hcq hkm
   have hcw : wr.cell? ⟨gq, j, none⟩ = some (.int .i64 kk) := by rw [HI.out.2.1.cell (p := ⟨gq, j, none⟩) hgq]; exact hcq
   obtain ⟨g, o2, x, rfl, hg, hx, hoth, hcf⟩ := FK.out kk hkm
   obtain ⟨q1, q2⟩ := hcf wr HI.out.1
   obtain ⟨gn, on, rfl, hgn, hkc⟩ := NK.out x hx
   have q3 := hkc wr HI.out.1
   obtain ⟨kx, hkx⟩ : ∃ z, Nt.kindAt ns x = z := ⟨_, rfl⟩
   obtain ⟨ev, hev⟩ : ∃ z, Nt.elsAt fs kk = z := ⟨_, rfl⟩
   rw [hkx] at q3 hoth
   rw [hev] at q2
   have hkm' : (kk : Int) < m := by omega
   have hkk0 : (0 : Int) ≤ kk := by omega
   have hx' : (x : Int) < n := by omega
   have hx0 : (0 : Int) ≤ x := by omega
   have hwe : IntKind.i64.wrap ((el : Int) + 1) = ((el + 1 : Nat) : Int) := by rw [IntKind.wrap_i64]; omega
   have hwo : IntKind.i64.wrap ((ot : Int) + 1) = ((ot + 1 : Nat) : Int) := by rw [IntKind.wrap_i64]; omega
   have HE2 : Hid ((L.take (j + 1)).countP (Nt.elsAt fs) = el + if ev = true then 1 else 0) := by
    show _ = _
    rw [Tm.take_snoc _ _ hjL, List.countP_append, HI.out.2.2.1, List.countP_singleton, hkk, hev]
   have HO2 : Hid ((L.take (j + 1)).countP (Nt.othAt ns fs) = ot + if (!decide (kx = 8)) = true then 1 else 0) := by
    show _ = _
    rw [Tm.take_snoc _ _ hjL, List.countP_append, HI.out.2.2.2, List.countP_singleton, hkk, hoth]
   have BD : Hid (∀ q, Below w.heap.size w (wr.drewN q) ∧ Below W2.heap.size W2 (wr.drewN q)) := fun q => ⟨Tk.below_drewN HI.out.1 q, Tk.below_drewN HI.out.2.1 q⟩
   have hgw : gn < wr.heap.size := by have := HI.out.1.size; omega
   clear hcq hkk hoth hcf hkc hkx hev hgq
   by_cases h8 : kx = 8
   ·have e8 : (kx != 8) = false := by simpa using h8
    rw [decide_eq_true h8] at HO2
    clear h8
    cases ev
    ·go_upto_region 11 with fail
     go_quiet (fail)
     go_wp2
     go_roundg (gk - 1)
     case measure => omega
     case rel => exact ⟨j + 1, el, ot, by omega, by go_num, rfl, rfl, by omega, by omega, (BD.out _).1, (BD.out _).2, by simpa using HE2.out, by simpa using HO2.out⟩
    ·go_upto_region 11 with fail
     go_quiet (fail)
     go_wp2
     go_roundg (gk - 1)
     case measure => omega
     case rel => exact ⟨j + 1, el + 1, ot, by omega, by go_num, by go_num, rfl, by omega, by omega, (BD.out _).1, (BD.out _).2, by simpa using HE2.out, by simpa using HO2.out⟩
   ·have e8 : (kx != 8) = true := by simpa using h8
    rw [decide_eq_false h8] at HO2
    clear h8
    cases ev
    ·go_upto_region 11 with fail
     go_quiet (fail)
     go_wp2
     go_roundg (gk - 1)
     case measure => omega
     case rel => exact ⟨j + 1, el, ot + 1, by omega, by go_num, rfl, by go_num, by omega, by omega, (BD.out _).1, (BD.out _).2, by simpa using HE2.out, by simpa using HO2.out⟩
    ·go_upto_region 11 with fail
     go_quiet (fail)
     go_wp2
     go_roundg (gk - 1)
     case measure => omega
     case rel => exact ⟨j + 1, el + 1, ot + 1, by omega, by go_num, by go_num, by go_num, by omega, by omega, (BD.out _).1, (BD.out _).2, by simpa using HE2.out, by simpa using HO2.out⟩
  ·have hd : decide ((j : Int) < b) = false := decide_eq_false (by omega)
   obtain ⟨gn, on, rfl, hgn, hkc⟩ := NK.out i hi
   have q3 := hkc wr HI.out.1
   rw [HL.out.2.2] at q3
   have HR2 : Hid (Nt.joinB k a b el ot = r) := by
    show _ = _
    have h3 := HI.out.2.2.1
    have h4 := HI.out.2.2.2
    rw [List.take_of_length_le (by rw [HL.out.2.1]; omega)] at h3 h4
    rw [HT.out, h3, h4]
   have hgw : gn < wr.heap.size := by have := HI.out.1.size; omega
   have hA : (((a : Int) == 0) = true ∧ ((a : Int) == 1) = false ∧ decide ((2 : Int) ≤ a) = false ∧ Hid (a = 0)) ∨ (((a : Int) == 0) = false ∧ ((a : Int) == 1) = true ∧ decide ((2 : Int) ≤ a) = false ∧ Hid (a = 1)) ∨ (((a : Int) == 0) = false ∧ ((a : Int) == 1) = false ∧ decide ((2 : Int) ≤ a) = true ∧ Hid (2 ≤ a)) := by
    rcases Nat.lt_or_ge a 1 with h | h
    ·exact .inl ⟨by simp; omega, by simp; omega, by simp; omega, by show a = 0; omega⟩
    ·rcases Nat.lt_or_ge a 2 with h | h
     ·exact .inr (.inl ⟨by simp; omega, by simp; omega, by simp; omega, by show a = 1; omega⟩)
     ·exact .inr (.inr ⟨by simp; omega, by simp; omega, by simp; omega, h⟩)
   have hB : (((b : Int) == 0) = true ∧ ((b : Int) == 1) = false ∧ decide ((2 : Int) ≤ b) = false ∧ Hid (b = 0)) ∨ (((b : Int) == 0) = false ∧ ((b : Int) == 1) = true ∧ decide ((2 : Int) ≤ b) = false ∧ Hid (b = 1)) ∨ (((b : Int) == 0) = false ∧ ((b : Int) == 1) = false ∧ decide ((2 : Int) ≤ b) = true ∧ Hid (2 ≤ b)) := by
    rcases Nat.lt_or_ge b 1 with h | h
    ·exact .inl ⟨by simp; omega, by simp; omega, by simp; omega, by show b = 0; omega⟩
    ·rcases Nat.lt_or_ge b 2 with h | h
     ·exact .inr (.inl ⟨by simp; omega, by simp; omega, by simp; omega, by show b = 1; omega⟩)
     ·exact .inr (.inr ⟨by simp; omega, by simp; omega, by simp; omega, h⟩)
   have hE : (((el : Int) == 1) = true ∧ Hid (el = 1)) ∨ (((el : Int) == 1) = false ∧ Hid (¬ el = 1)) := by
    by_cases h : el = 1
    ·exact .inl ⟨by simp; omega, h⟩
    ·exact .inr ⟨by simp; omega, h⟩
   have hO : (((ot : Int) == 0) = true ∧ Hid (ot = 0)) ∨ (((ot : Int) == 0) = false ∧ Hid (¬ ot = 0)) := by
    by_cases h : ot = 0
    ·exact .inl ⟨by simp; omega, h⟩
    ·exact .inr ⟨by simp; omega, h⟩
   clear hkc NK FK HT HL B2 BR hj he ho
   by_cases k1 : k = 1
   ·subst k1
    have HR3 : Hid (decide (a = 0 ∧ b = 1) = r) := by show _ = _; rw [← HR2.out]; simp [Nt.joinB]
    rcases hA with ⟨a0, a1, a2, a3⟩ | ⟨a0, a1, a2, a3⟩ | ⟨a0, a1, a2, a3⟩ <;> rcases hB with ⟨b0, b1, b2, b3⟩ | ⟨b0, b1, b2, b3⟩ | ⟨b0, b1, b2, b3⟩
    all_goals
     go_wp2
     go_ret
     refine ⟨Tk.ret_bool ?_, HI.out.1⟩
     rw [← HR3.out]
     have x1 := a3.out
     have x2 := b3.out
     first | exact (decide_eq_true (by omega)).symm | exact (decide_eq_false (by omega)).symm
   by_cases k2 : k = 2
   ·subst k2
    have HR3 : Hid (decide (a = 1 ∧ b = 0) = r) := by show _ = _; rw [← HR2.out]; simp [Nt.joinB]
    rcases hA with ⟨a0, a1, a2, a3⟩ | ⟨a0, a1, a2, a3⟩ | ⟨a0, a1, a2, a3⟩ <;> rcases hB with ⟨b0, b1, b2, b3⟩ | ⟨b0, b1, b2, b3⟩ | ⟨b0, b1, b2, b3⟩
    all_goals
     go_wp2
     go_ret
     refine ⟨Tk.ret_bool ?_, HI.out.1⟩
     rw [← HR3.out]
     have x1 := a3.out
     have x2 := b3.out
     first | exact (decide_eq_true (by omega)).symm | exact (decide_eq_false (by omega)).symm
   by_cases k5 : k = 5
   ·subst k5
    have HR3 : Hid (decide ((a = 1 ∧ 2 ≤ b ∧ el = 1) ∨ (2 ≤ a ∧ b = 1)) = r) := by show _ = _; rw [← HR2.out]; simp [Nt.joinB]
    rcases hA with ⟨a0, a1, a2, a3⟩ | ⟨a0, a1, a2, a3⟩ | ⟨a0, a1, a2, a3⟩ <;> rcases hB with ⟨b0, b1, b2, b3⟩ | ⟨b0, b1, b2, b3⟩ | ⟨b0, b1, b2, b3⟩ <;> rcases hE with ⟨e0, e1⟩ | ⟨e0, e1⟩
    all_goals
     go_wp2
     go_ret
     refine ⟨Tk.ret_bool ?_, HI.out.1⟩
     rw [← HR3.out]
     have x1 := a3.out
     have x2 := b3.out
     have x3 := e1.out
     first | exact (decide_eq_true (by omega)).symm | exact (decide_eq_false (by omega)).symm
   by_cases k6 : k = 6
   ·subst k6
    have HR3 : Hid (decide ((a = 1 ∧ 2 ≤ b) ∨ (2 ≤ a ∧ b = 1)) = r) := by show _ = _; rw [← HR2.out]; simp [Nt.joinB]
    rcases hA with ⟨a0, a1, a2, a3⟩ | ⟨a0, a1, a2, a3⟩ | ⟨a0, a1, a2, a3⟩ <;> rcases hB with ⟨b0, b1, b2, b3⟩ | ⟨b0, b1, b2, b3⟩ | ⟨b0, b1, b2, b3⟩
    all_goals
     go_wp2
     go_ret
     refine ⟨Tk.ret_bool ?_, HI.out.1⟩
     rw [← HR3.out]
     have x1 := a3.out
     have x2 := b3.out
     first | exact (decide_eq_true (by omega)).symm | exact (decide_eq_false (by omega)).symm
   by_cases k7 : k = 7
   ·subst k7
    have HR3 : Hid (decide (a = 1 ∧ 2 ≤ b ∧ ot = 0) = r) := by show _ = _; rw [← HR2.out]; simp [Nt.joinB]
    rcases hA with ⟨a0, a1, a2, a3⟩ | ⟨a0, a1, a2, a3⟩ | ⟨a0, a1, a2, a3⟩ <;> rcases hB with ⟨b0, b1, b2, b3⟩ | ⟨b0, b1, b2, b3⟩ | ⟨b0, b1, b2, b3⟩ <;> rcases hO with ⟨e0, e1⟩ | ⟨e0, e1⟩
    all_goals
     go_wp2
     go_ret
     refine ⟨Tk.ret_bool ?_, HI.out.1⟩
     rw [← HR3.out]
     have x1 := a3.out
     have x2 := b3.out
     have x3 := e1.out
     first | exact (decide_eq_true (by omega)).symm | exact (decide_eq_false (by omega)).symm
   ·have f1 : (k == 1) = false := by simpa using k1
    have f2 : (k == 2) = false := by simpa using k2
    have f5 : (k == 5) = false := by simpa using k5
    have f6 : (k == 6) = false := by simpa using k6
    have f7 : (k == 7) = false := by simpa using k7
    have HR3 : Hid (decide (a = 1 ∧ b = 1) = r) := by show _ = _; rw [← HR2.out, Nt.joinB, if_neg k1, if_neg k2, if_neg k5, if_neg k6, if_neg k7]
    clear k1 k2 k5 k6 k7
    rcases hA with ⟨a0, a1, a2, a3⟩ | ⟨a0, a1, a2, a3⟩ | ⟨a0, a1, a2, a3⟩ <;> rcases hB with ⟨b0, b1, b2, b3⟩ | ⟨b0, b1, b2, b3⟩ | ⟨b0, b1, b2, b3⟩
    all_goals
     go_wp2
     go_ret
     refine ⟨Tk.ret_bool ?_, HI.out.1⟩
     rw [← HR3.out]
     have x1 := a3.out
     have x2 := b3.out
     first | exact (decide_eq_true (by omega)).symm | exact (decide_eq_false (by omega)).symm
end Go.Proofs
namespace Go.Proofs
open Go.RowKit Go.Shelf
def Rk.Bits (w : World) (g : Nat) (bs : List Bool) : Prop := w.heap[g]? = some (.cells (bs.map Value.bool).toArray 4 (0, 0))
theorem Rk.Bits.lt {w : World} {g : Nat} {bs : List Bool} (h : Rk.Bits w g bs) : g < w.heap.size := (Array.getElem?_eq_some_iff.1 h).1
theorem Rk.Bits.cell {w : World} {g : Nat} {bs : List Bool} (h : Rk.Bits w g bs) (j : Nat) (b : Bool) (hj : bs[j]? = some b) : w.cell? ⟨g, j, none⟩ = some (.bool b) := by
 unfold Rk.Bits at h
 simp [World.cell?, h, hj]
theorem Rk.Bits.frozen {w : World} {g : Nat} {bs : List Bool} (h : Rk.Bits w g bs) (j : Nat) : w.frozen? ⟨g, j, none⟩ = false := by
 unfold Rk.Bits at h
 simp [World.frozen?, h]
theorem Rk.Bits.put {w : World} {g : Nat} {bs : List Bool} (h : Rk.Bits w g bs) (j : Nat) (b : Bool) : Rk.Bits (w.setCell ⟨g, j, none⟩ (.bool b)) g (bs.set j b) := by
 unfold Rk.Bits at *
 simp [World.setCell, Array.getElem?_modify, h]
theorem Rk.Bits.keep {w w' : World} {g : Nat} {bs : List Bool} (h : Rk.Bits w g bs) (hk : w'.heap[g]? = w.heap[g]?) : Rk.Bits w' g bs := by unfold Rk.Bits; rw [hk]; exact h
theorem Tryz.infoBool : (Tryz.prog.info? 4).map (fun i => (i.zero, i.size, i.bytes)) = some (some (.bool false), 1, 1) := by kernel_rfl
theorem Nt.box2' {W : World} {b : Nat} {v u : Value} {t : TypeId} (h : W.heap[b]? = some (.cells #[v, u] t (0, 0))) : W.cell? ⟨b, 0, none⟩ = some v ∧ W.cell? ⟨b, 1, none⟩ = some u := ⟨by simp [World.cell?, h], by simp [World.cell?, h]⟩
def Rk.row (n : Nat) : Array Value := ((List.replicate n false).map Value.bool).toArray
theorem Rk.make_bools (n : Nat) (hn : n ≤ 64) (w : World) : (Instr.makeSlice 96 (.int .i64 (n : Int)) (.int .i64 (n : Int))).run Tryz.prog w = .ok (.slice (some ⟨w.heap.size, 0, none⟩) n n) (w.alloc (.cells (Rk.row n) 4)) := by
 have h := run_make_row' (P := Tryz.prog) 96 4 (.bool false) 1 Tryz.underlying96 Tryz.infoBool rfl .i64 .i64 n (by omega) (by omega) w
 rw [h, show madeCells #[Value.bool false] n = Rk.row n from ?_]
 apply Array.toList_inj.1
 rw [toList_madeCells_one]
 simp [Rk.row]
theorem Rk.row_bits (w : World) (n : Nat) : Rk.Bits (w.alloc (.cells (Rk.row n) 4)) w.heap.size (List.replicate n false) := heap_alloc_new w (.cells (Rk.row n) 4)
theorem Rk.drop_at {α : Type} (l : List α) (k : Nat) (h : k < l.length) : l.drop k = l[k] :: l.drop (k + 1) := List.drop_eq_getElem_cons h
set_option maxRecDepth 20000 in
set_option maxHeartbeats 8000000 in
theorem Tryz.rReach_any (a0 : Nat) (an : Option Addr) (cn : Nat) (af : Option Addr) (cf d : Nat) (ns : List Nd) (fs : List Fl) (w : World) (hH : Nt.Has w w.heap.size d an af ns fs) (hn24 : ns.length ≤ 24) (hes : ∀ f, f ∈ fs → 0 ≤ f.fr ∧ f.fr < ns.length ∧ 0 ≤ f.to ∧ f.to < ns.length) (ha : a0 < ns.length) :
  Calls Tryz.prog 36 #[.agg #[.slice an ns.length cn, .slice af fs.length cf], .int .i64 a0] w fun e w' => ∃ g, e = .returned (.slice (some ⟨g, 0, none⟩) ns.length ns.length) ∧ w.heap.size ≤ g ∧ Rk.Bits w' g ((List.range ns.length).map (Rk.met (Nt.edges fs) a0)) ∧ Below w.heap.size w w' := by
 obtain ⟨w0, hw0⟩ : ∃ x, w.alloc (.cells #[.slice an ns.length cn, .slice af fs.length cf] 25) = x := ⟨_, rfl⟩
 have A0 : Below w.heap.size w w0 := by rw [← hw0]; exact (Below.refl _ w).alloc (Nat.le_refl _) _
 have G0 : w0.heap[w.heap.size]? = some (.cells #[.slice an ns.length cn, .slice af fs.length cf] 25 (0, 0)) := by rw [← hw0]; exact heap_alloc_new w _
 have hs0 : w0.heap.size = w.heap.size + 1 := by rw [← hw0]; simp
 have hmet := Nt.sweeps_met (Nt.edges_lt hes) ha
 have hmk := Rk.make_bools ns.length (by omega)
 obtain ⟨es, hE⟩ : ∃ l, Nt.edges fs = l := ⟨_, rfl⟩
 rw [hE] at hmet
 have HES : Hid (∀ k (h : k < fs.length), ∃ x y : Nat, x < ns.length ∧ y < ns.length ∧ fs[k].fr = x ∧ fs[k].to = y ∧ es[k]? = some (x, y)) := fun k hk => by
  have := hes _ (List.getElem_mem hk)
  refine ⟨fs[k].fr.toNat, fs[k].to.toNat, by omega, by omega, by omega, by omega, ?_⟩
  rw [← hE, List.getElem?_eq_getElem (by rw [Nt.edges_length]; exact hk), Nt.edges_get fs k hk]
 have hel : es.length = fs.length := by rw [← hE, Nt.edges_length]
 obtain ⟨n, hnn⟩ : ∃ n, ns.length = n := ⟨_, rfl⟩
 obtain ⟨m, hmm⟩ : ∃ n, fs.length = n := ⟨_, rfl⟩
 have HFL : Hid (Nt.Fls w w.heap.size d af fs) := hH.fls
 have hm100 : m ≤ 100 := by have := hH.flen; omega
 rw [hnn] at hn24 ha hmet hmk HES
 rw [hnn, hmm] at hw0 G0
 rw [hE, hnn, hmm]
 have ha' : (a0 : Int) < n := by omega
 have ha0 : (0 : Int) ≤ a0 := by omega
 have H0 : Hid (w.alloc (.cells #[.slice an n cn, .slice af m cf] 25) = w0) := hw0
 obtain ⟨w1, hw1⟩ : ∃ x, w0.alloc (.cells (Rk.row n) 4) = x := ⟨_, rfl⟩
 have X1 : Rk.Bits w1 w0.heap.size (List.replicate n false) := by rw [← hw1]; exact Rk.row_bits w0 n
 have A1 : Below w.heap.size w w1 := by rw [← hw1]; exact A0.alloc A0.size _
 have G1 : w1.heap[w.heap.size]? = some (.cells #[.slice an n cn, .slice af m cf] 25 (0, 0)) := by rw [← hw1, Below.heap_alloc _ _ _ ((Array.getElem?_eq_some_iff.1 G0).1)]; exact G0
 have k0 := X1.cell a0 false (by simp [ha])
 have k1 := X1.frozen a0
 have Y1 : Rk.Bits (w1.setCell ⟨w0.heap.size, a0, none⟩ (.bool true)) w0.heap.size ((List.replicate n false).set a0 true) := X1.put a0 true
 obtain ⟨w2, hw2⟩ : ∃ x, w1.setCell ⟨w0.heap.size, a0, none⟩ (.bool true) = x := ⟨_, rfl⟩
 rw [hw2] at Y1
 -- what a world on the way holds
 have HK2 : Hid (w2.heap[w.heap.size]? = some (.cells #[.slice an n cn, .slice af m cf] 25 (0, 0)) ∧ Below w.heap.size w w2 ∧ Rk.Bits w2 w0.heap.size ((List.replicate n false).set a0 true)) := by
  refine ⟨?_, ?_, Y1⟩
  ·rw [← hw2, Below.heap_setCell _ _ _ _ (by show w.heap.size ≠ w0.heap.size; omega)]; exact G1
  ·rw [← hw2]; exact A1.setCell (p := ⟨w0.heap.size, a0, none⟩) (by show w.heap.size ≤ w0.heap.size; omega) _
 have HW1 : Hid (w0.alloc (.cells (Rk.row n) 4) = w1) := hw1
 have HW2 : Hid (w1.setCell ⟨w0.heap.size, a0, none⟩ (.bool true) = w2) := hw2
 have HM : Hid (Rk.sweeps es n ((List.replicate n false).set a0 true) = (List.range n).map (Rk.met es a0) ∧ es.length = m ∧ w0.heap.size = w.heap.size + 1 ∧ fs.length = m) := ⟨hmet, by omega, hs0, hmm⟩
 obtain ⟨p0, p1⟩ := Nt.box2' G0
 obtain ⟨p2, p3⟩ := Nt.box2' G1
 obtain ⟨b2, hb2⟩ : ∃ z, w0.heap.size = z := ⟨_, rfl⟩
 have HB2 : Hid (w0.heap.size = b2) := hb2
 have hlt0 : w.heap.size < w0.heap.size := by omega
 clear hH hes hmet hE hel hnn hmm A0 G0 A1 G1 X1 Y1 hw0 hw1 hw2 hs0 hb2
 go_enter Tryz.func36, Tryz.ntmps36
 go_upto_region 1 with fail
 rw [H0.out]
 go_upto_region 2 with fail
 rw [HW1.out]
 go_upto_region 3 with fail
 rw [HW2.out]
 obtain ⟨q0, q1⟩ := Nt.box2' HK2.out.1
 clear p0 p1 p2 p3 k0 k1 hmk H0 HW1 HW2
 rw [HB2.out]
 rw [HB2.out] at HK2 HM
 go_wp2
 go_loopg [18] n (fun gk s18 wr => ∃ (j : Nat) (cur : List Bool), gk + j = n ∧ s18 = .int .i64 j ∧ Hid (Rk.sweeps es (n - j) cur = (List.range n).map (Rk.met es a0) ∧ cur.length = n ∧ Rk.Bits wr b2 cur ∧ Below w.heap.size w wr ∧ wr.heap[w.heap.size]? = some (.cells #[.slice an n cn, .slice af m cf] 25 (0, 0))))
 case atStart => exact ⟨0, _, by omega, rfl, HM.out.1, by simp, HK2.out.2.2, HK2.out.2.1, HK2.out.1⟩
 case round =>
  obtain ⟨j, cur, hj, rfl, HI⟩ := hrel
  clear q0 q1
  by_cases hlt : j < n
  ·have hd : decide ((j : Int) < n) = true := decide_eq_true (by omega)
   obtain ⟨q0, q1⟩ := Nt.box2' HI.out.2.2.2.2
   have HSW : Hid (Rk.sweeps es (n - (j + 1)) (Rk.sweep es cur) = (List.range n).map (Rk.met es a0)) := by
    show _ = _
    rw [← HI.out.1, show n - j = (n - (j + 1)) + 1 by omega, Rk.sweeps]
   obtain ⟨g1, hg1⟩ : ∃ x, gk = x := ⟨_, rfl⟩
   go_wp2
   go_loopg [23] m (fun gk s23 wr => ∃ (k : Nat) (cu2 : List Bool), gk + k = m ∧ s23 = .int .i64 k ∧ Hid (Rk.sweep (es.drop k) cu2 = Rk.sweep es cur ∧ cu2.length = n ∧ Rk.Bits wr b2 cu2 ∧ Below w.heap.size w wr ∧ wr.heap[w.heap.size]? = some (.cells #[.slice an n cn, .slice af m cf] 25 (0, 0))))
   case atStart => exact ⟨0, cur, by omega, rfl, rfl, HI.out.2.1, HI.out.2.2.1, HI.out.2.2.2.1, HI.out.2.2.2.2⟩
   case round =>
    obtain ⟨k, cu2, hk, rfl, HJ⟩ := hrel
    clear q0 q1
    by_cases hlt2 : k < m
    ·have hd2 : decide ((k : Int) < m) = true := decide_eq_true (by omega)
     have hkl : k < fs.length := by rw [HM.out.2.2.2]; exact hlt2
     obtain ⟨q, off, u, rfl, hq, h0, h1, h2, h3, h4, h5, h6⟩ := HFL.out k hkl
     obtain ⟨x, y, hx, hy, hfx, hfy, hek⟩ := HES.out k hkl
     obtain ⟨au, cu, rfl⟩ := h6.shape
     rw [hfx] at h0
     rw [hfy] at h1
     obtain ⟨nu, hnu⟩ : ∃ n, fs[k].c.ks.length = n := ⟨_, rfl⟩
     obtain ⟨els, hel⟩ : ∃ x, fs[k].els = x := ⟨_, rfl⟩
     obtain ⟨op, hop⟩ : ∃ x, fs[k].c.op = x := ⟨_, rfl⟩
     obtain ⟨num, hnum⟩ : ∃ x, fs[k].c.num = x := ⟨_, rfl⟩
     rw [hnu] at h5
     rw [hel] at h2
     rw [hop] at h3
     rw [hnum] at h4
     have hc : ∀ o, wr.cell? ⟨q, o, none⟩ = w.cell? ⟨q, o, none⟩ := fun o => HJ.out.2.2.2.1.cell (p := ⟨q, o, none⟩) hq
     have c0 := (hc _).trans h0
     have c1 := (hc _).trans h1
     have c2 := (hc _).trans h2
     have c3 := (hc _).trans h3
     have c4 := (hc _).trans h4
     have c5 := (hc _).trans h5
     have hx' : (x : Int) < n := by omega
     have hy' : (y : Int) < n := by omega
     have hx0 : (0 : Int) ≤ x := by omega
     have hy0 : (0 : Int) ≤ y := by omega
     have hz : b2 < wr.heap.size := HJ.out.2.2.1.lt
     have hu := Tryz.underlying73
     obtain ⟨b1, hb1⟩ : ∃ b, cu2[x]? = some b := ⟨_, List.getElem?_eq_getElem (by rw [HJ.out.2.1]; exact hx)⟩
     obtain ⟨b3, hb3⟩ : ∃ b, cu2[y]? = some b := ⟨_, List.getElem?_eq_getElem (by rw [HJ.out.2.1]; exact hy)⟩
     have k1 := HJ.out.2.2.1.cell x b1 hb1
     have k2 := HJ.out.2.2.1.cell y b3 hb3
     have f2 := HJ.out.2.2.1.frozen y
     have hbx : w.heap.size < wr.heap.size := (Array.getElem?_eq_some_iff.1 HJ.out.2.2.2.2).1
     have HNX : Hid (Rk.sweep (es.drop (k + 1)) (if b1 = true then cu2.set y true else cu2) = Rk.sweep es cur) := by
      show _ = _
      rw [← HJ.out.1, Rk.drop_at es k (by rw [HM.out.2.1]; exact hlt2), Rk.sweep]
      obtain ⟨hh, he⟩ := List.getElem?_eq_some_iff.1 hek
      rw [he]
      congr 1
      simp only [hb1, Option.some.injEq]
     have HA : Hid (Rk.Bits (wr.alloc (.cells #[.int .i64 (x : Int), .int .i64 (y : Int), .bool els, .int .i64 op, .int .i64 num, .slice au nu cu] 73)) b2 cu2 ∧ Below w.heap.size w (wr.alloc (.cells #[.int .i64 (x : Int), .int .i64 (y : Int), .bool els, .int .i64 op, .int .i64 num, .slice au nu cu] 73)) ∧ (wr.alloc (.cells #[.int .i64 (x : Int), .int .i64 (y : Int), .bool els, .int .i64 op, .int .i64 num, .slice au nu cu] 73)).heap[w.heap.size]? = some (.cells #[.slice an n cn, .slice (some ⟨q, off, none⟩) m cf] 25 (0, 0))) :=
      ⟨HJ.out.2.2.1.keep (Below.heap_alloc _ _ _ hz), HJ.out.2.2.2.1.alloc HJ.out.2.2.2.1.size _, by rw [Below.heap_alloc _ _ _ hbx]; exact HJ.out.2.2.2.2⟩
     have hne : w.heap.size ≠ b2 := by have := HM.out.2.2.1; omega
     have HS : Hid (Rk.Bits ((wr.setCell ⟨b2, y, none⟩ (.bool true)).alloc (.cells #[.int .i64 (x : Int), .int .i64 (y : Int), .bool els, .int .i64 op, .int .i64 num, .slice au nu cu] 73)) b2 (cu2.set y true) ∧ Below w.heap.size w ((wr.setCell ⟨b2, y, none⟩ (.bool true)).alloc (.cells #[.int .i64 (x : Int), .int .i64 (y : Int), .bool els, .int .i64 op, .int .i64 num, .slice au nu cu] 73)) ∧ ((wr.setCell ⟨b2, y, none⟩ (.bool true)).alloc (.cells #[.int .i64 (x : Int), .int .i64 (y : Int), .bool els, .int .i64 op, .int .i64 num, .slice au nu cu] 73)).heap[w.heap.size]? = some (.cells #[.slice an n cn, .slice (some ⟨q, off, none⟩) m cf] 25 (0, 0))) :=
      ⟨(HJ.out.2.2.1.put y true).keep (Below.heap_alloc _ _ _ (by simpa using hz)), (HJ.out.2.2.2.1.setCell (p := ⟨b2, y, none⟩) (by show w.heap.size ≤ b2; have := HM.out.2.2.1; omega) _).alloc (by simpa using HJ.out.2.2.2.1.size) _, by rw [Below.heap_alloc _ _ _ (by simpa using hbx), Below.heap_setCell _ _ _ _ hne]; exact HJ.out.2.2.2.2⟩
     clear h0 h1 h2 h3 h4 h5 h6 hc hnu hel hop hnum hq hfx hfy hek hb1 hb3
     cases b1
     ·go_wp2
      go_roundg (gk - 1)
      case measure => omega
      case rel => exact ⟨k + 1, _, by omega, by go_num, HNX.out, HJ.out.2.1, HA.out.1, HA.out.2.1, HA.out.2.2⟩
     ·go_wp2
      go_roundg (gk - 1)
      case measure => omega
      case rel => exact ⟨k + 1, _, by omega, by go_num, HNX.out, by simpa using HJ.out.2.1, HS.out.1, HS.out.2.1, HS.out.2.2⟩
    ·have hd2 : decide ((k : Int) < m) = false := decide_eq_false (by omega)
     have HF : Hid (cu2 = Rk.sweep es cur) := by
      show _ = _
      rw [← HJ.out.1, List.drop_of_length_le (by rw [HM.out.2.1]; omega)]
      rfl
     go_wp2
     go_roundg (g1 - 1)
     case measure => omega
     case rel => exact ⟨j + 1, cu2, by omega, by go_num, by rw [HF.out]; exact HSW.out, HJ.out.2.1, HJ.out.2.2.1, HJ.out.2.2.2.1, HJ.out.2.2.2.2⟩
  ·have hd : decide ((j : Int) < n) = false := decide_eq_false (by omega)
   have HF : Hid (cur = (List.range n).map (Rk.met es a0)) := by
    show _ = _
    rw [← HI.out.1, show n - j = 0 by omega]
    rfl
   go_wp2
   go_ret
   exact ⟨b2, rfl, by have := HM.out.2.2.1; omega, by rw [← HF.out]; exact HI.out.2.2.1, HI.out.2.2.2.1⟩
end Go.Proofs
