/-
  block.stand and Check: the program's answer as plain mathematics. · block.stand and Check of any block. · block.Check of any block.
-/
import Derived.Test.YtemccpfgkbhahaaGreatDoorBlEnter
import Derived.Test.YtemccpfgkbhahaaGreatDoorNtAll
import Derived.Great.BuildSlice
namespace Go.Proofs
open Go.RowKit Go.Shelf

/-- What a process that breaks no rule keeps. -/
theorem Bl.right_keeps {ns : List Nd} {fs : List Fl} (h : (Nt.checkN ns fs).1 = 0) : ns.length ≤ 24 ∧ ∀ f, f ∈ fs → 0 ≤ f.to ∧ f.to < ns.length := by
  have h : (Nt.broken ns fs).1 = 0 := h
  unfold Nt.broken at h
  split at h
  · simp at h
  · next h1 =>
    split at h
    · simp at h
    · next h2 =>
      have k1 := Nt.one_keeps (by simpa using h1)
      have k2 := Nt.two_keeps (by simpa using h2)
      exact ⟨k1.1, fun f hf => ⟨(k2 f hf).2.2.1, (k2 f hf).2.2.2.1⟩⟩

/-- The two steps of stand. -/
def Bl.step1 (ns : List Nd) (fs : List Fl) (T : Bl) (s : Unit) : Bool × Unit := (T.formedB ns fs, s)
def Bl.step2 (fs : List Fl) (T : Bl) (bs : List Bool) : Bool × List Bool := (!(Bl.enterAll (Bl.nodesL fs T.kind T.node) bs).1, (Bl.enterAll (Bl.nodesL fs T.kind T.node) bs).2)
def Bl.noMarks : List Bool := List.replicate 24 false
/-- Which nodes stand in a block, and why it is none. -/
noncomputable def Bl.standR (ns : List Nd) (fs : List Fl) (T : Bl) : List Bool × Int :=
  if (Nt.checkN ns fs).1 ≠ 0 then (Bl.noMarks, 1) else if T.tooB = true then (Bl.noMarks, 2) else if (T.go (Bl.step1 ns fs) ()).1 = false then (Bl.noMarks, 4)
  else ((T.go (Bl.step2 fs) Bl.noMarks).2, if (T.go (Bl.step2 fs) Bl.noMarks).1 = true then 0 else 8)

mutual
theorem Bl.go_all {α : Type} (f : Bl → Bool) (s : α) : ∀ T : Bl, (T.go (fun T s => (f T, s)) s = (true, s) ∧ T.All fun x => f x = true) ∨ T.go (fun T s => (f T, s)) s = (false, s)
  | .mk k n a ks ls => by
    rw [Bl.go, Bl.All]
    cases hf : f (.mk k n a ks ls) with
    | false => exact .inr rfl
    | true =>
      rcases Bl.goes_all f s ks with h | h
      · exact .inl ⟨h.1, rfl, h.2⟩
      · exact .inr h
theorem Bl.goes_all {α : Type} (f : Bl → Bool) (s : α) : ∀ l : List Bl, (Bl.goes (fun T s => (f T, s)) l s = (true, s) ∧ Bl.Alls (fun x => f x = true) l) ∨ Bl.goes (fun T s => (f T, s)) l s = (false, s)
  | [] => .inl ⟨rfl, trivial⟩
  | k :: r => by
    rw [Bl.goes, Bl.Alls]
    rcases Bl.go_all f s k with h | h
    · rw [h.1]
      rcases Bl.goes_all f s r with h' | h'
      · exact .inl ⟨h'.1, h.2, h'.2⟩
      · exact .inr h'
    · rw [h]; exact .inr rfl
end
theorem Bl.all_mono {P Q : Bl → Prop} (h : ∀ T, P T → Q T) (T : Bl) : T.All P → T.All Q :=
  Bl.rec (motive_1 := fun T => T.All P → T.All Q) (motive_2 := fun l => Bl.Alls P l → Bl.Alls Q l)
    (fun _ _ _ _ _ ih hp => ⟨h _ hp.1, ih hp.2⟩) (fun _ => trivial) (fun _ _ i1 i2 hp => ⟨i1 hp.1, i2 hp.2⟩) T
theorem Bl.all_few (T : Bl) : T.size ≤ 2147483647 → T.All fun x => x.ks.length ≤ 2147483647 :=
  Bl.rec (motive_1 := fun T => T.size ≤ 2147483647 → T.All fun x => x.ks.length ≤ 2147483647) (motive_2 := fun l => Bl.sizes l ≤ 2147483647 → Bl.Alls (fun x => x.ks.length ≤ 2147483647) l)
    (fun k n a ks ls ih hs => by
      rw [Bl.size] at hs
      have h1 := Bl.length_le_sizes ks
      exact ⟨by show ks.length ≤ _; omega, ih (by omega)⟩)
    (fun _ => trivial)
    (fun x r i1 i2 hs => by
      rw [Bl.sizes] at hs
      exact ⟨i1 (by omega), i2 (by omega)⟩) T

theorem Nt.ofKinds_lt {ns : List Nd} {i : Int} {xs : List Int} (h : Nt.ofKinds ns i xs = true) : 0 ≤ i ∧ i < ns.length := by
  unfold Nt.ofKinds at h
  rw [Bool.and_eq_true, decide_eq_true_eq] at h
  refine ⟨h.1, ?_⟩
  rcases Nat.lt_or_ge i.toNat ns.length with hl | hl
  · omega
  · rw [List.getElem?_eq_none hl] at h
    simp at h
theorem Bl.outs_lt {fs : List Fl} {i : Int} {f : Nat} (h : f ∈ Nt.outsL fs i) : f < fs.length := List.mem_range.1 (List.mem_filter.1 h).1
theorem Bl.formed_parts {ns : List Nd} {fs : List Fl} {T : Bl} (h : T.formedB ns fs = true) : (T.kind = 1 ∨ T.kind = 3 ∨ T.kind = 9 ∨ T.kind = 10) ∧ T.node = 0 ∨ (T.kind = 2 ∨ T.kind = 4 ∨ T.kind = 5 ∨ T.kind = 6 ∨ T.kind = 7 ∨ T.kind = 8) ∧ 0 ≤ T.node ∧ T.node < ns.length := by
  unfold Bl.formedB at h
  split at h
  · cases h
  split at h
  · rename_i hk; rw [decide_eq_true_eq] at h; exact .inl ⟨by omega, h.1⟩
  split at h
  · rename_i hk; rw [decide_eq_true_eq] at h; exact .inl ⟨by omega, h.1⟩
  split at h
  · rename_i hk; rw [Bool.and_eq_true, decide_eq_true_eq] at h; exact .inl ⟨by omega, h.1.1⟩
  split at h
  · rename_i hk; rw [Bool.and_eq_true] at h; exact .inr ⟨by omega, Nt.ofKinds_lt h.1⟩
  split at h
  · rename_i hk; rw [Bool.and_eq_true] at h; exact .inr ⟨by omega, Nt.ofKinds_lt h.1⟩
  split at h
  · rename_i hk; rw [Bl.splitsB, Bool.and_eq_true] at h; exact .inr ⟨by omega, Nt.ofKinds_lt h.1⟩
  split at h
  · rename_i hk; rw [Bl.splitsB, Bool.and_eq_true] at h; exact .inr ⟨by omega, Nt.ofKinds_lt h.1⟩
  split at h
  · rename_i hk; rw [Bl.splitsB, Bool.and_eq_true] at h; exact .inr ⟨by omega, Nt.ofKinds_lt h.1⟩
  split at h
  · rename_i hk; rw [Bl.splitsB, Bool.and_eq_true, Bool.and_eq_true, Bool.and_eq_true] at h; exact .inr ⟨by omega, Nt.ofKinds_lt h.1.1.1⟩
  · cases h
theorem Bl.rg_of {ns : List Nd} {fs : List Fl} (hR : (Nt.checkN ns fs).1 = 0) {T : Bl} (h : T.formedB ns fs = true) : Bk.Rg ns fs T := by
  obtain ⟨h24, hto⟩ := Bl.right_keeps hR
  rcases Bl.formed_parts h with ⟨hk, h0⟩ | ⟨hk, h0, h1⟩
  · refine ⟨fun x hx => ?_, by omega⟩
    rw [Bl.nodesL, if_neg (by omega), if_neg (by omega)] at hx
    cases hx
  · refine ⟨fun x hx => ?_, h0⟩
    have hn : T.node.toNat < 24 := by omega
    unfold Bl.nodesL at hx
    split at hx
    · rw [List.mem_singleton] at hx; omega
    · split at hx
      · rw [List.mem_cons] at hx
        rcases hx with hx | hx
        · omega
        · obtain ⟨f, hf, rfl⟩ := List.mem_map.1 hx
          have hl := Bl.outs_lt hf
          rw [List.getElem?_eq_getElem hl]
          have := hto _ (List.getElem_mem hl)
          simp
          omega
      · cases hx

set_option maxRecDepth 20000 in
set_option maxHeartbeats 2000000 in
theorem Tryz.stand1_any (B d dt : Nat) (an : Option Addr) (cn : Nat) (af : Option Addr) (cf : Nat) (ns : List Nd) (fs : List Fl) (bn : Nat) (T : Bl) (v u : Value) (w : World) (hN : Nt.Has w B d an af ns fs) (hb : w.heap[bn]? = some (.cells #[.slice an ns.length cn, .slice af fs.length cf] 25 (0, 0))) (hT : Bl.Lies w B dt v u T) (hB : B ≤ w.heap.size) (hk : T.ks.length ≤ 2147483647) :
    Calls Tryz.prog 29 #[.agg #[.int .i64 T.kind, .int .i64 T.node, .int .i64 T.arg, v, u], .pointer (some ⟨bn, 0, none⟩)] w fun e w' => e = .returned (.bool (T.formedB ns fs)) ∧ Below w.heap.size w w' := by
  obtain ⟨a, c, rfl⟩ := hT.shape
  obtain ⟨al, cl, rfl⟩ := hT.links.shape
  obtain ⟨W0, hW0⟩ : ∃ z, w.alloc (.cells #[.int .i64 T.kind, .int .i64 T.node, .int .i64 T.arg, .slice a T.ks.length c, .slice al T.ls.length cl] 29) = z := ⟨_, rfl⟩
  have A0 : Below w.heap.size w W0 := by rw [← hW0]; exact (Below.refl _ w).alloc (Nat.le_refl _) _
  have G0 : W0.heap[w.heap.size]? = some (.cells #[.int .i64 T.kind, .int .i64 T.node, .int .i64 T.arg, .slice a T.ks.length c, .slice al T.ls.length cl] 29 (0, 0)) := by rw [← hW0]; exact heap_alloc_new w _
  have e1 := (A0.block bn (Array.getElem?_eq_some_iff.1 hb).1).trans hb
  have h := Tryz.bformed_any dt d B T _ _ an cn af cf ns fs W0 (hT.below (A0.mono hB)) (hN.below (A0.mono hB)) (Nat.le_trans hB A0.size) hk
  have HC : Hid (Calls Tryz.prog 30 #[.agg #[.slice an ns.length cn, .slice af fs.length cf], .agg #[.int .i64 T.kind, .int .i64 T.node, .int .i64 T.arg, .slice a T.ks.length c, .slice al T.ls.length cl]] W0 fun e w' => e = .returned (.bool (T.formedB ns fs)) ∧ Hid (Below w.heap.size w w')) := h.mono fun _ _ q => ⟨q.1, A0.trans (q.2.mono A0.size)⟩
  obtain ⟨o, ho⟩ : ∃ o, T.kind = o := ⟨_, rfl⟩
  obtain ⟨m, hm⟩ : ∃ m, T.node = m := ⟨_, rfl⟩
  obtain ⟨r, hr⟩ : ∃ m, T.arg = m := ⟨_, rfl⟩
  obtain ⟨nk, hnk⟩ : ∃ n, T.ks.length = n := ⟨_, rfl⟩
  obtain ⟨nl, hnl⟩ : ∃ n, T.ls.length = n := ⟨_, rfl⟩
  obtain ⟨n, hn⟩ : ∃ n, ns.length = n := ⟨_, rfl⟩
  obtain ⟨nf, hnf⟩ : ∃ n, fs.length = n := ⟨_, rfl⟩
  obtain ⟨R, hR⟩ : ∃ n, T.formedB ns fs = n := ⟨_, rfl⟩
  rw [ho, hm, hr, hnk, hnl, hn, hnf, hR] at HC
  rw [ho, hm, hr, hnk, hnl] at G0 hW0
  rw [hn, hnf] at e1
  rw [ho, hm, hr, hnk, hnl, hR]
  have x0 : W0.cell? ⟨bn, 0, none⟩ = some (.slice an n cn) := by simp [World.cell?, e1]
  have x1 : W0.cell? ⟨bn, 1, none⟩ = some (.slice af nf cf) := by simp [World.cell?, e1]
  have y0 : W0.cell? ⟨w.heap.size, 0, none⟩ = some (.int .i64 o) := by simp [World.cell?, G0]
  have y1 : W0.cell? ⟨w.heap.size, 1, none⟩ = some (.int .i64 m) := by simp [World.cell?, G0]
  have y2 : W0.cell? ⟨w.heap.size, 2, none⟩ = some (.int .i64 r) := by simp [World.cell?, G0]
  have y3 : W0.cell? ⟨w.heap.size, 3, none⟩ = some (.slice a nk c) := by simp [World.cell?, G0]
  have y4 : W0.cell? ⟨w.heap.size, 4, none⟩ = some (.slice al nl cl) := by simp [World.cell?, G0]
  have HW0 : Hid _ := hW0
  clear h hT hN hB hk hb ho hm hr hnk hnl hn hnf hR hW0 A0 G0 e1
  go_enter Tryz.func29, Tryz.ntmps29
  go_upto_region 1 with fail
  rw [HW0.out]
  go_wp2_with fail
  refine Calls.mono HC.out ?_
  rintro e W1 ⟨rfl, hb⟩
  clear HC
  go_wp2
  go_ret
  exact ⟨rfl, hb.out⟩

theorem Bk.stepped1 (B d : Nat) (an : Option Addr) (cn : Nat) (af : Option Addr) (cf : Nat) (ns : List Nd) (fs : List Fl) (bn bw : Nat) (hbn : bn ≠ bw) (hbw : B ≤ bw) :
    Bk.Stepped (Bl.step1 ns fs) (fun T => T.ks.length ≤ 2147483647) 29 #[.pointer (some ⟨bn, 0, none⟩)] (fun _ W => B ≤ W.heap.size ∧ Nt.Has W B d an af ns fs ∧ W.heap[bn]? = some (.cells #[.slice an ns.length cn, .slice af fs.length cf] 25 (0, 0))) (fun _ => False) B bw where
  enters := enters_of Tryz.func29 (by kernel_rfl) rfl
  calls := fun s W dt T v u hP hI hB hT => (Tryz.stand1_any B d dt an cn af cf ns fs bn T v u W hI.2.1 hI.2.2 hT hB hP).mono fun _ w' q => ⟨q.1, ⟨Nat.le_trans hI.1 q.2.size, hI.2.1.below (q.2.mono hB), (q.2.block bn (Array.getElem?_eq_some_iff.1 hI.2.2).1).trans hI.2.2⟩, Tk.But.of_below q.2⟩
  keeps := fun s W W' hI hb => ⟨Nat.le_trans hI.1 hb.size, hI.2.1.below (hb.below hI.1 (fun k hk e => by omega)), (hb.block bn (Array.getElem?_eq_some_iff.1 hI.2.2).1 hbn).trans hI.2.2⟩
  above := fun k hk => hk.elim
  not_bw := fun h => h

theorem Bk.stepped2 (B d : Nat) (an : Option Addr) (cn : Nat) (af : Option Addr) (cf : Nat) (ns : List Nd) (fs : List Fl) (bn b be bw : Nat) (hbn : bn ≠ bw) (hb : b ≠ bw) (hbe : be ≠ bw) (hbw : B ≤ bw) (hne : bn ≠ b ∧ be ≠ b ∧ B ≤ b) (hto : ∀ f, f ∈ fs → 0 ≤ f.to) :
    Bk.Stepped (Bl.step2 fs) (Bk.Rg ns fs) 32 #[.pointer (some ⟨bn, 0, none⟩), .pointer (some ⟨be, 0, none⟩)] (fun bs W => B ≤ W.heap.size ∧ Bk.Sd B d an cn af cf ns fs bn b be bs W) (fun k => k = b) B bw where
  enters := enters_of Tryz.func32 (by kernel_rfl) rfl
  calls := fun bs W dt T v u hP hI hB hT => (Tryz.stand3_any B d dt an cn af cf ns fs bn b be bs T v u W hI.2 hT hB hne hP hto).mono fun _ w' q => by
    refine ⟨q.1, ⟨Nat.le_trans hI.1 q.2.2.size, hI.2.has.below (q.2.2.below hB fun k hk e => by omega), (q.2.2.block bn (Array.getElem?_eq_some_iff.1 hI.2.box).1 hne.1).trans hI.2.box, q.2.1, ?_, ?_⟩, q.2.2⟩
    · show (Bl.enterAll _ bs).2.length = 24; rw [Bl.enterAll_len]; exact hI.2.len
    · obtain ⟨t, ht⟩ := hI.2.fn
      exact ⟨t, (q.2.2.block be (Array.getElem?_eq_some_iff.1 ht).1 hne.2.1).trans ht⟩
  keeps := fun bs W W' hI h => by
    obtain ⟨t, ht⟩ := hI.2.fn
    exact ⟨Nat.le_trans hI.1 h.size, hI.2.has.below (h.below hI.1 (fun k hk e => by omega)), (h.block bn (Array.getElem?_eq_some_iff.1 hI.2.box).1 hbn).trans hI.2.box, hI.2.marks.keep (h.block b hI.2.marks.lt hb), hI.2.len, t, (h.block be (Array.getElem?_eq_some_iff.1 ht).1 hbe).trans ht⟩
  above := fun k hk => by omega
  not_bw := fun h => hb h.symm

end Go.Proofs

namespace Go.Proofs
open Go.RowKit Go.Shelf

/-- Marks as an array. -/
def Bk.arrB (bs : List Bool) : Array Value := (bs.map Value.bool).toArray
theorem Bk.arrB_size (bs : List Bool) : (Bk.arrB bs).size = bs.length := by simp [Bk.arrB]
theorem Bk.arrB_all (bs : List Bool) : (Bk.arrB bs).all (·.oneCell') = true := by
  rw [Bk.arrB, Array.all_eq_true]
  intro i hi
  simp
  rfl
theorem Bk.arrB_info {bs : List Bool} (h : bs.length = 24) : (Tryz.prog.info? 61).map (·.size) = some (Bk.arrB bs).size := by rw [Bk.arrB_size, h]; kernel_rfl
theorem Bk.zeroB : (#[.bool false, .bool false, .bool false, .bool false, .bool false, .bool false, .bool false, .bool false, .bool false, .bool false, .bool false, .bool false, .bool false, .bool false, .bool false, .bool false, .bool false, .bool false, .bool false, .bool false, .bool false, .bool false, .bool false, .bool false] : Array Value) = Bk.arrB Bl.noMarks := by kernel_rfl
theorem Bk.results24 {fn : Func} {p u : Tmp} (h : fn.results = #[.cell p 61, .tmp u]) (tmps : Array Value) (w : World) (q : Nat) (bs : List Bool) (hT : bs.length = 24)
    (hp : tmps.getD p undef = .pointer (some ⟨q, 0, none⟩)) (hq : w.heap[q]? = some (.cells (Bk.arrB bs) 61 (0, 0))) :
    (results fn tmps).run Tryz.prog w = .ok (.tuple #[.agg (Bk.arrB bs), tmps.getD u undef]) w := by
  have hp' : tmps[p]?.getD undef = .pointer (some ⟨q, 0, none⟩) := by simpa using hp
  have hr := run_loadVar_row (P := Tryz.prog) w q 61 61 (Bk.arrB bs) (0, 0) _ hq Tryz.underlying61 rfl (Bk.arrB_info hT)
  simp [results, h, hp', asAddr, hr]

mutual
theorem Bl.go2_len (fs : List Fl) : ∀ (T : Bl) (bs : List Bool), (T.go (Bl.step2 fs) bs).2.length = bs.length
  | .mk k n a ks ls, bs => by
    rw [Bl.go]
    split
    · rw [Bl.goes2_len fs ks]; exact Bl.enterAll_len _ _
    · exact Bl.enterAll_len _ _
theorem Bl.goes2_len (fs : List Fl) : ∀ (l : List Bl) (bs : List Bool), (Bl.goes (Bl.step2 fs) l bs).2.length = bs.length
  | [], bs => rfl
  | k :: r, bs => by
    rw [Bl.goes]
    split
    · rw [Bl.goes2_len fs r]; exact Bl.go2_len fs k bs
    · exact Bl.go2_len fs k bs
end

set_option maxRecDepth 20000 in
set_option maxHeartbeats 16000000 in
theorem Tryz.stand_any (d dn : Nat) (T : Bl) (v u : Value) (an : Option Addr) (cn : Nat) (af : Option Addr) (cf : Nat) (ns : List Nd) (fs : List Fl) (w : World) (hT : Bl.Lies w w.heap.size d v u T) (hN : Nt.Has w w.heap.size dn an af ns fs) (hO : Tk.Ops w) (hsz : T.size ≤ 2147483647) (hdp : T.depth ≤ 1000) (hlk : T.allP (fun _ _ _ ls => decide (ls.length ≤ 2147483647)) = true) :
    Calls Tryz.prog 17 #[.agg #[.slice an ns.length cn, .slice af fs.length cf], .agg #[.int .i64 T.kind, .int .i64 T.node, .int .i64 T.arg, v, u]] w fun e w' => e = .returned (.tuple #[.agg (Bk.arrB (T.standR ns fs).1), .int .i64 (T.standR ns fs).2]) ∧ Below w.heap.size w w' := by
  obtain ⟨a, c, rfl⟩ := hT.shape
  obtain ⟨al, cl, rfl⟩ := hT.links.shape
  obtain ⟨o, ho⟩ : ∃ o, T.kind = o := ⟨_, rfl⟩
  obtain ⟨nd, hnd⟩ : ∃ m, T.node = m := ⟨_, rfl⟩
  obtain ⟨r, hr⟩ : ∃ m, T.arg = m := ⟨_, rfl⟩
  obtain ⟨nk, hnk⟩ : ∃ n, T.ks.length = n := ⟨_, rfl⟩
  obtain ⟨nl, hnl⟩ : ∃ n, T.ls.length = n := ⟨_, rfl⟩
  obtain ⟨n, hn⟩ : ∃ n, ns.length = n := ⟨_, rfl⟩
  obtain ⟨m, hm⟩ : ∃ n, fs.length = n := ⟨_, rfl⟩
  rw [ho, hnd, hr, hnk, hnl, hn, hm]
  obtain ⟨W0, hW0⟩ : ∃ z, (((w.alloc (.cells #[.slice an n cn, .slice af m cf] 25)).alloc (.cells #[.int .i64 o, .int .i64 nd, .int .i64 r, .slice a nk c, .slice al nl cl] 29)).alloc (.cells #[.bool false, .bool false, .bool false, .bool false, .bool false, .bool false, .bool false, .bool false, .bool false, .bool false, .bool false, .bool false, .bool false, .bool false, .bool false, .bool false, .bool false, .bool false, .bool false, .bool false, .bool false, .bool false, .bool false, .bool false] 61)).alloc (.cells #[.bool false, .bool false, .bool false, .bool false, .bool false, .bool false, .bool false, .bool false, .bool false, .bool false, .bool false, .bool false, .bool false, .bool false, .bool false, .bool false, .bool false, .bool false, .bool false, .bool false, .bool false, .bool false, .bool false, .bool false] 61) = z := ⟨_, rfl⟩
  have S0 : W0.heap.size = w.heap.size + 4 := by rw [← hW0]; simp
  have A0 : Below w.heap.size w W0 := by rw [← hW0]; exact ((((Below.refl _ w).alloc (Nat.le_refl _) _).alloc (by simp) _).alloc (by simp; omega) _).alloc (by simp; omega) _
  have G1 : W0.heap[w.heap.size]? = some (.cells #[.slice an n cn, .slice af m cf] 25 (0, 0)) := by
    rw [← hW0, Below.heap_alloc _ _ _ (by simp; omega), Below.heap_alloc _ _ _ (by simp; omega), Below.heap_alloc _ _ _ (by simp)]; exact heap_alloc_new w _
  have G2 : W0.heap[w.heap.size + 1]? = some (.cells #[.int .i64 o, .int .i64 nd, .int .i64 r, .slice a nk c, .slice al nl cl] 29 (0, 0)) := by
    rw [← hW0, Below.heap_alloc _ _ _ (by simp), Below.heap_alloc _ _ _ (by simp)]
    have := heap_alloc_new (w.alloc (.cells #[.slice an n cn, .slice af m cf] 25)) (.cells #[.int .i64 o, .int .i64 nd, .int .i64 r, .slice a nk c, .slice al nl cl] 29)
    simpa using this
  have G3 : W0.heap[w.heap.size + 2]? = some (.cells (Bk.arrB Bl.noMarks) 61 (0, 0)) := by
    rw [← hW0, Below.heap_alloc _ _ _ (by simp), ← Bk.zeroB]
    have := heap_alloc_new ((w.alloc (.cells #[.slice an n cn, .slice af m cf] 25)).alloc (.cells #[.int .i64 o, .int .i64 nd, .int .i64 r, .slice a nk c, .slice al nl cl] 29)) (.cells #[.bool false, .bool false, .bool false, .bool false, .bool false, .bool false, .bool false, .bool false, .bool false, .bool false, .bool false, .bool false, .bool false, .bool false, .bool false, .bool false, .bool false, .bool false, .bool false, .bool false, .bool false, .bool false, .bool false, .bool false] 61)
    simpa using this
  have G4 : W0.heap[w.heap.size + 3]? = some (.cells (Bk.arrB Bl.noMarks) 61 (0, 0)) := by
    rw [← hW0, ← Bk.zeroB]
    have := heap_alloc_new (((w.alloc (.cells #[.slice an n cn, .slice af m cf] 25)).alloc (.cells #[.int .i64 o, .int .i64 nd, .int .i64 r, .slice a nk c, .slice al nl cl] 29)).alloc (.cells #[.bool false, .bool false, .bool false, .bool false, .bool false, .bool false, .bool false, .bool false, .bool false, .bool false, .bool false, .bool false, .bool false, .bool false, .bool false, .bool false, .bool false, .bool false, .bool false, .bool false, .bool false, .bool false, .bool false, .bool false] 61)) (.cells #[.bool false, .bool false, .bool false, .bool false, .bool false, .bool false, .bool false, .bool false, .bool false, .bool false, .bool false, .bool false, .bool false, .bool false, .bool false, .bool false, .bool false, .bool false, .bool false, .bool false, .bool false, .bool false, .bool false, .bool false] 61)
    simpa using this
  have CF : Hid (∀ W, Tk.But (fun k => k = w.heap.size + 3) W0 W → ((W.cell? ⟨w.heap.size, 0, none⟩ = some (.slice an n cn) ∧ W.cell? ⟨w.heap.size, 1, none⟩ = some (.slice af m cf)) ∧ (W.cell? ⟨w.heap.size + 1, 0, none⟩ = some (.int .i64 o) ∧ W.cell? ⟨w.heap.size + 1, 1, none⟩ = some (.int .i64 nd) ∧ W.cell? ⟨w.heap.size + 1, 2, none⟩ = some (.int .i64 r) ∧ W.cell? ⟨w.heap.size + 1, 3, none⟩ = some (.slice a nk c) ∧ W.cell? ⟨w.heap.size + 1, 4, none⟩ = some (.slice al nl cl))) ∧ W.heap[w.heap.size + 1 + 1]? = some (.cells (Bk.arrB Bl.noMarks) 61 (0, 0)) ∧ Below w.heap.size w W ∧ W.heap[w.heap.size]? = some (.cells #[.slice an n cn, .slice af m cf] 25 (0, 0))) := fun W hb => by
    have e1 := (hb.block w.heap.size (by omega) (by omega)).trans G1
    have e2 := (hb.block (w.heap.size + 1) (by omega) (by omega)).trans G2
    have e3 := (hb.block (w.heap.size + 2) (by omega) (by omega)).trans G3
    exact ⟨⟨⟨by simp [World.cell?, e1], by simp [World.cell?, e1]⟩, by simp [World.cell?, e2], by simp [World.cell?, e2], by simp [World.cell?, e2], by simp [World.cell?, e2], by simp [World.cell?, e2]⟩, e3, A0.trans (hb.below (by omega) fun k hk => by omega), e1⟩
  have LT : ∀ W, Below w.heap.size w W → Bl.Lies W w.heap.size d (.slice a nk c) (.slice al nl cl) T ∧ Nt.Has W w.heap.size dn an af ns fs ∧ Tk.Ops W := fun W hb => by
    refine ⟨?_, hN.below hb, hO.below hb hO.lt⟩
    have h := hT.below hb
    rw [hnk, hnl] at h
    exact h
  obtain ⟨q1, hq1⟩ : ∃ q, (Nt.checkN ns fs).1 = q := ⟨_, rfl⟩
  obtain ⟨q1', hq1'⟩ : ∃ q, (Nt.checkN ns fs).2 = q := ⟨_, rfl⟩
  obtain ⟨q2, hq2⟩ : ∃ q, T.tooB = q := ⟨_, rfl⟩
  obtain ⟨q3, hq3⟩ : ∃ q, (T.go (Bl.step1 ns fs) ()).1 = q := ⟨_, rfl⟩
  obtain ⟨R2, hR2⟩ : ∃ q, T.go (Bl.step2 fs) Bl.noMarks = q := ⟨_, rfl⟩
  have hl2 : R2.2.length = 24 := by rw [← hR2, Bl.go2_len]; rfl
  have C1 : Hid (∀ W, Below W0.heap.size W0 W → Calls Tryz.prog 28 #[.agg #[.slice an n cn, .slice af m cf]] W fun e w' => e = .returned (.tuple #[.int .i64 (q1 : Int), .int .i64 (q1' : Int)]) ∧ Hid (Below W0.heap.size W0 w')) := fun W hb => by
    have k := A0.trans (hb.mono A0.size)
    have h := Tryz.nCheck_any an cn af cf dn ns fs W ((LT W k).2.1.wider k.size) (LT W k).2.2
    rw [hn, hm, hq1, hq1'] at h
    exact h.mono fun _ _ q => ⟨q.1, hb.trans (q.2.mono hb.size)⟩
  have C2 : Hid (∀ W, Below W0.heap.size W0 W → Calls Tryz.prog 18 #[.agg #[.int .i64 o, .int .i64 nd, .int .i64 r, .slice a nk c, .slice al nl cl]] W fun e w' => e = .returned (.bool q2) ∧ Hid (Below W0.heap.size W0 w')) := fun W hb => by
    have k := A0.trans (hb.mono A0.size)
    have h := Tryz.tooLarge_any d T _ _ W ((LT W k).1.wider k.size) (by have := hb.size; omega) hsz hlk
    rw [ho, hnd, hr, hq2] at h
    exact h.mono fun _ _ q => ⟨q.1, hb.trans (q.2.mono hb.size)⟩
  have hpos : 0 < w.heap.size := Nat.zero_lt_of_lt hO.lt
  have C3 : Hid (∀ W, Below W0.heap.size W0 W → Calls Tryz.prog 19 #[.agg #[.int .i64 o, .int .i64 nd, .int .i64 r, .slice a nk c, .slice al nl cl], .func (.func 29) #[] #[.pointer (some ⟨w.heap.size, 0, none⟩)]] W fun e w' => e = .returned (.bool q3) ∧ Hid (Below W0.heap.size W0 w')) := fun W hb => by
    have k := A0.trans (hb.mono A0.size)
    have h1 := (CF.out W (Tk.But.of_below hb)).2.2.2
    have h := Tryz.bgothrough_any (B := w.heap.size) d () T _ _ W (fun bw hbw => Bk.stepped1 w.heap.size dn an cn af cf ns fs w.heap.size bw (by have := hb.size; omega) (by have := hb.size; omega)) (LT W k).1 hpos k.size ⟨k.size, (LT W k).2.1, by rw [hn, hm]; exact h1⟩ (fun k hk => hk.elim) hdp hsz (Bl.all_few T hsz)
    rw [ho, hnd, hr, hq3] at h
    exact h.mono fun _ _ q => ⟨q.1, hb.trans ((q.2.2.below (Nat.le_refl _) fun k _ h => h).mono hb.size)⟩
  have C4 : Hid (q1 = 0 → q3 = true → ∀ (W : World), Below W0.heap.size W0 W → ∀ V, Below W.heap.size W V → V.heap[W.heap.size]? = some (.cells #[.func (.func 31) #[] #[.pointer (some ⟨w.heap.size + 1 + 1 + 1, 0, none⟩)]] 81 (0, 0)) → Calls Tryz.prog 19 #[.agg #[.int .i64 o, .int .i64 nd, .int .i64 r, .slice a nk c, .slice al nl cl], .func (.func 32) #[] #[.pointer (some ⟨w.heap.size, 0, none⟩), .pointer (some ⟨W.heap.size, 0, none⟩)]] V fun e w' => e = .returned (.bool R2.1) ∧ Hid (Tk.But (fun k => k = w.heap.size + 3) W0 w' ∧ w'.heap[w.heap.size + 1 + 1 + 1]? = some (.cells (Bk.arrB R2.2) 61 (0, 0)))) := fun z1 z3 W hb V hV hbe => by
    have hbV := hb.trans (hV.mono hb.size)
    have k := A0.trans (hbV.mono A0.size)
    have h1 := (CF.out V (Tk.But.of_below hbV)).2.2.2
    have hs1 := hb.size
    have hs2 := hV.size
    have hfm : (Bl.All (fun x => x.formedB ns fs = true) T) := by
      rcases Bl.go_all (fun x => x.formedB ns fs) () T with h | h
      · exact h.2
      · have h' : (T.go (Bl.step1 ns fs) ()).1 = false := by unfold Bl.step1; rw [h]
        rw [hq3, z3] at h'
        cases h'
    have hz : (Nt.checkN ns fs).1 = 0 := by rw [hq1, z1]
    have h := Tryz.bgothrough_any (B := w.heap.size) d Bl.noMarks T _ _ V (fun bw hbw => Bk.stepped2 w.heap.size dn an cn af cf ns fs w.heap.size (w.heap.size + 1 + 1 + 1) W.heap.size bw (by omega) (by omega) (by have := (Array.getElem?_eq_some_iff.1 hbe).1; omega) (by omega) ⟨by omega, by omega, by omega⟩ (fun f hf => ((Bl.right_keeps hz).2 f hf).1)) (LT V k).1 hpos k.size
      ⟨k.size, (LT V k).2.1, by rw [hn, hm]; exact h1, (hbV.block (w.heap.size + 3) (by omega)).trans G4, rfl, _, hbe⟩ (fun k hk => by omega) hdp hsz (Bl.all_mono (fun x hx => Bl.rg_of hz hx) T hfm)
    rw [ho, hnd, hr, hR2] at h
    exact h.mono fun _ w' q => ⟨q.1, (Tk.But.of_below hbV).trans q.2.2, q.2.1.2.marks⟩
  obtain ⟨R, hR⟩ : ∃ z, T.standR ns fs = z := ⟨_, rfl⟩
  rw [hR]
  rw [Bl.standR, hq1, hq2, hq3, hR2] at hR
  have HR : Hid _ := hR
  have HW0 : Hid _ := hW0
  have HS : Hid (W0.heap.size = w.heap.size + 4 ∧ W0.heap[w.heap.size + 1 + 1 + 1]? = some (.cells (Bk.arrB Bl.noMarks) 61 (0, 0))) := ⟨S0, G4⟩
  have BR : Hid (Below W0.heap.size W0 W0) := Below.refl _ _
  have hu := Tryz.underlying61
  have hi0 : (Tryz.prog.info? 61).map (·.size) = some (Bk.arrB Bl.noMarks).size := Bk.arrB_info rfl
  have hi2 : (Tryz.prog.info? 61).map (·.size) = some (Bk.arrB R2.2).size := Bk.arrB_info hl2
  have hj0 : (Bk.arrB Bl.noMarks).all (·.oneCell') = true := Bk.arrB_all _
  have hj2 : (Bk.arrB R2.2).all (·.oneCell') = true := Bk.arrB_all _
  have hs2 : (Bk.arrB Bl.noMarks).size = (Bk.arrB R2.2).size := by rw [Bk.arrB_size, Bk.arrB_size, hl2]; rfl
  have HL2 : Hid (R2.2.length = 24) := hl2
  obtain ⟨b2, m2⟩ := R2
  obtain ⟨Z0, hZ0⟩ : ∃ z, Bk.arrB Bl.noMarks = z := ⟨_, rfl⟩
  obtain ⟨Z2, hZ2⟩ : ∃ z, Bk.arrB m2 = z := ⟨_, rfl⟩
  have HZ : Hid (Bk.arrB Bl.noMarks = Z0 ∧ Bk.arrB m2 = Z2) := ⟨hZ0, hZ2⟩
  simp only [hZ0, hZ2] at hi0 hi2 hj0 hj2 hs2 CF C4 HS
  clear hT hN hO hsz hdp hlk ho hnd hr hnk hnl hn hm hW0 A0 S0 G1 G2 G3 G4 LT hq1 hq1' hq2 hq3 hR2 hl2 hR hpos hZ0 hZ2
  have FIN : Hid (∀ W, Below W0.heap.size W0 W → Below w.heap.size w (W.setRow (w.heap.size + 1 + 1) Z0) ∧ (W.setRow (w.heap.size + 1 + 1) Z0).heap[w.heap.size + 1 + 1]? = some (.cells (Bk.arrB Bl.noMarks) 61 (0, 0))) := fun W hb => by
    have k := CF.out W (Tk.But.of_below hb)
    exact ⟨Bk.below_row k.2.2.1 (by omega) _, by rw [HZ.out.1]; exact setRow_heap _ _ _ _ _ _ k.2.1⟩
  go_enter Tryz.func17, Tryz.ntmps17
  go_upto_region 2 with fail
  rw [HW0.out]
  clear HW0
  obtain ⟨⟨⟨x0, x1⟩, y0, y1, y2, y3, y4⟩, -, -, -⟩ := CF.out W0 (Tk.But.of_below BR.out)
  go_wp2_with fail
  refine Calls.mono (C1.out _ BR.out) ?_
  rintro e W1 ⟨rfl, B1⟩
  clear x0 x1 y0 y1 y2 y3 y4 C1
  by_cases h1 : q1 = 0
  · have e1 : ((q1 : Int) != 0) = false := by simp; omega
    obtain ⟨⟨⟨x0, x1⟩, y0, y1, y2, y3, y4⟩, -, -, -⟩ := CF.out W1 (Tk.But.of_below B1.out)
    have HC4 : Hid _ := C4.out h1
    have H1 : Hid (q1 = 0) := h1
    clear h1 C4
    go_wp2_with fail
    refine Calls.mono (C2.out _ B1.out) ?_
    rintro e W2 ⟨rfl, B2⟩
    clear x0 x1 y0 y1 y2 y3 y4 C2
    cases q2 with
    | true =>
      have HX : Hid (R = (Bl.noMarks, 2)) := by show _ = _; rw [← HR.out, if_neg (by rw [H1.out]; simp), if_pos rfl]
      have k := CF.out W2 (Tk.But.of_below B2.out)
      have N2 := k.2.1
      have N3 := (B2.out.block (w.heap.size + 1 + 1 + 1) (by have := HS.out.1; omega)).trans HS.out.2
      clear k
      go_upto_region 6 with fail
      go_wp2_with (first | (refine wpList_load_row rfl 61 _ rfl (w.heap.size + 1 + 1 + 1) rfl 61 Z0 (0, 0) _ N3 hu rfl hi0 ?_) | (refine wpList_store_row rfl 61 _ _ rfl (w.heap.size + 1 + 1) Z0 rfl rfl 61 _ N2 hi0 rfl hj0 ?_))
      refine bodyPost_ret (Bk.results24 Tryz.results17 _ _ (w.heap.size + 1 + 1) Bl.noMarks rfl rfl (FIN.out W2 B2.out).2) rfl ⟨?_, (FIN.out W2 B2.out).1⟩
      rw [HX.out]
      rfl
    | false =>
      obtain ⟨⟨⟨x0, x1⟩, y0, y1, y2, y3, y4⟩, -, -, -⟩ := CF.out W2 (Tk.But.of_below B2.out)
      go_wp2_with fail
      refine Calls.mono (C3.out _ B2.out) ?_
      rintro e W3 ⟨rfl, B3⟩
      clear x0 x1 y0 y1 y2 y3 y4 C3
      cases q3 with
      | false =>
        have HX : Hid (R = (Bl.noMarks, 4)) := by show _ = _; rw [← HR.out, if_neg (by rw [H1.out]; simp), if_neg (by simp), if_pos rfl]
        have k := CF.out W3 (Tk.But.of_below B3.out)
        have N2 := k.2.1
        have N3 := (B3.out.block (w.heap.size + 1 + 1 + 1) (by have := HS.out.1; omega)).trans HS.out.2
        clear k
        go_upto_region 8 with fail
        go_wp2_with (first | (refine wpList_load_row rfl 61 _ rfl (w.heap.size + 1 + 1 + 1) rfl 61 Z0 (0, 0) _ N3 hu rfl hi0 ?_) | (refine wpList_store_row rfl 61 _ _ rfl (w.heap.size + 1 + 1) Z0 rfl rfl 61 _ N2 hi0 rfl hj0 ?_))
        refine bodyPost_ret (Bk.results24 Tryz.results17 _ _ (w.heap.size + 1 + 1) Bl.noMarks rfl rfl (FIN.out W3 B3.out).2) rfl ⟨?_, (FIN.out W3 B3.out).1⟩
        rw [HX.out]
        rfl
      | true =>
        have HK : Hid ((W3.alloc (.cells #[.nilFunc] 81)).heap[W3.heap.size]? = some (.cells #[.nilFunc] 81 (0, 0))) := heap_alloc_new W3 _
        obtain ⟨V, hV⟩ : ∃ z, (W3.alloc (.cells #[.nilFunc] 81)).setRow W3.heap.size #[.func (.func 31) #[] #[.pointer (some ⟨w.heap.size + 1 + 1 + 1, 0, none⟩)]] = z := ⟨_, rfl⟩
        have GV : Hid (V.heap[W3.heap.size]? = some (.cells #[.func (.func 31) #[] #[.pointer (some ⟨w.heap.size + 1 + 1 + 1, 0, none⟩)]] 81 (0, 0))) := by
          show _ = _
          rw [← hV]
          exact setRow_heap _ _ _ _ _ _ HK.out
        have BV : Hid (Below W3.heap.size W3 V) := by
          show Below _ _ _
          rw [← hV]
          exact Bk.below_row ((Below.refl _ W3).alloc (Nat.le_refl _) _) (Nat.le_refl _) _
        have HV : Hid _ := hV
        have hcall := HC4.out (by first | rfl | trivial) W3 B3.out V BV.out GV.out
        have HCL : Hid _ := hcall
        have B4 : Hid (Below W0.heap.size W0 V) := B3.out.trans (BV.out.mono B3.out.size)
        clear hV hcall HC4 GV
        go_upto_region 10 with (refine wpList_store_oneTo rfl 81 _ _ rfl rfl W3.heap.size (.func (.func 31) #[] #[.pointer (some ⟨w.heap.size + 1 + 1 + 1, 0, none⟩)]) rfl rfl rfl 81 .nilFunc (by exact HK.out) (by kernel_rfl) ?_)
        rw [HV.out]
        clear HV HK
        obtain ⟨⟨⟨x0, x1⟩, y0, y1, y2, y3, y4⟩, -, -, -⟩ := CF.out V (Tk.But.of_below B4.out)
        go_wp2_with fail
        refine Calls.mono HCL.out ?_
        rintro e W5 ⟨rfl, B5⟩
        clear x0 x1 y0 y1 y2 y3 y4 HCL
        have k := CF.out W5 B5.out.1
        have N2 := k.2.1
        have N3 := B5.out.2
        have FB : Hid (Below w.heap.size w (W5.setRow (w.heap.size + 1 + 1) Z2) ∧ (W5.setRow (w.heap.size + 1 + 1) Z2).heap[w.heap.size + 1 + 1]? = some (.cells (Bk.arrB m2) 61 (0, 0))) := ⟨Bk.below_row k.2.2.1 (by omega) _, by rw [HZ.out.2]; exact setRow_heap _ _ _ _ _ _ k.2.1⟩
        clear k
        have HX : Hid (R = (m2, if b2 = true then 0 else 8)) := by show _ = _; rw [← HR.out, if_neg (by rw [H1.out]; simp), if_neg (by simp), if_neg (by simp)]
        cases b2 with
        | true =>
          go_upto_region 12 with fail
          go_wp2_with (first | (refine wpList_load_row rfl 61 _ rfl (w.heap.size + 1 + 1 + 1) rfl 61 Z2 (0, 0) _ N3 hu rfl hi2 ?_) | (refine wpList_store_row rfl 61 _ _ rfl (w.heap.size + 1 + 1) Z2 rfl rfl 61 _ N2 hi2 hs2 hj2 ?_))
          refine bodyPost_ret (Bk.results24 Tryz.results17 _ _ (w.heap.size + 1 + 1) m2 HL2.out rfl FB.out.2) rfl ⟨?_, FB.out.1⟩
          rw [HX.out]
          rfl
        | false =>
          go_upto_region 11 with fail
          go_wp2_with (first | (refine wpList_load_row rfl 61 _ rfl (w.heap.size + 1 + 1 + 1) rfl 61 Z2 (0, 0) _ N3 hu rfl hi2 ?_) | (refine wpList_store_row rfl 61 _ _ rfl (w.heap.size + 1 + 1) Z2 rfl rfl 61 _ N2 hi2 hs2 hj2 ?_))
          refine bodyPost_ret (Bk.results24 Tryz.results17 _ _ (w.heap.size + 1 + 1) m2 HL2.out rfl FB.out.2) rfl ⟨?_, FB.out.1⟩
          rw [HX.out]
          rfl
  · have e1 : ((q1 : Int) != 0) = true := by simp; omega
    have HX : Hid (R = (Bl.noMarks, 1)) := by show _ = _; rw [← HR.out, if_pos h1]
    have k := CF.out W1 (Tk.But.of_below B1.out)
    have N2 := k.2.1
    have N3 := (B1.out.block (w.heap.size + 1 + 1 + 1) (by have := HS.out.1; omega)).trans HS.out.2
    clear k h1
    go_upto_region 4 with fail
    go_wp2_with (first | (refine wpList_load_row rfl 61 _ rfl (w.heap.size + 1 + 1 + 1) rfl 61 Z0 (0, 0) _ N3 hu rfl hi0 ?_) | (refine wpList_store_row rfl 61 _ _ rfl (w.heap.size + 1 + 1) Z0 rfl rfl 61 _ N2 hi0 rfl hj0 ?_))
    refine bodyPost_ret (Bk.results24 Tryz.results17 _ _ (w.heap.size + 1 + 1) Bl.noMarks rfl rfl (FIN.out W1 B1.out).2) rfl ⟨?_, (FIN.out W1 B1.out).1⟩
    rw [HX.out]
    rfl

end Go.Proofs

namespace Go.Proofs
open Go.RowKit Go.Shelf

theorem Bl.stand_len (ns : List Nd) (fs : List Fl) (T : Bl) : (T.standR ns fs).1.length = 24 := by
  unfold Bl.standR
  split
  · rfl
  split
  · rfl
  split
  · rfl
  · exact Bl.go2_len fs T Bl.noMarks

set_option maxRecDepth 20000 in
set_option maxHeartbeats 8000000 in
theorem Tryz.bcheck_any (d dn : Nat) (T : Bl) (v u : Value) (an : Option Addr) (cn : Nat) (af : Option Addr) (cf : Nat) (ns : List Nd) (fs : List Fl) (w : World) (hT : Bl.Lies w w.heap.size d v u T) (hN : Nt.Has w w.heap.size dn an af ns fs) (hO : Tk.Ops w) (hsz : T.size ≤ 2147483647) (hdp : T.depth ≤ 1000) (hlk : T.allP (fun _ _ _ ls => decide (ls.length ≤ 2147483647)) = true) :
    Calls Tryz.prog 8 #[.agg #[.slice an ns.length cn, .slice af fs.length cf], .agg #[.int .i64 T.kind, .int .i64 T.node, .int .i64 T.arg, v, u]] w fun e w' => e = .returned (.int .i64 (T.standR ns fs).2) ∧ Below w.heap.size w w' := by
  obtain ⟨a, c, rfl⟩ := hT.shape
  obtain ⟨al, cl, rfl⟩ := hT.links.shape
  obtain ⟨o, ho⟩ : ∃ o, T.kind = o := ⟨_, rfl⟩
  obtain ⟨nd, hnd⟩ : ∃ m, T.node = m := ⟨_, rfl⟩
  obtain ⟨r, hr⟩ : ∃ m, T.arg = m := ⟨_, rfl⟩
  obtain ⟨nk, hnk⟩ : ∃ n, T.ks.length = n := ⟨_, rfl⟩
  obtain ⟨nl, hnl⟩ : ∃ n, T.ls.length = n := ⟨_, rfl⟩
  obtain ⟨n, hn⟩ : ∃ n, ns.length = n := ⟨_, rfl⟩
  obtain ⟨m, hm⟩ : ∃ n, fs.length = n := ⟨_, rfl⟩
  obtain ⟨W0, hW0⟩ : ∃ z, (w.alloc (.cells #[.slice an n cn, .slice af m cf] 25)).alloc (.cells #[.int .i64 o, .int .i64 nd, .int .i64 r, .slice a nk c, .slice al nl cl] 29) = z := ⟨_, rfl⟩
  have A0 : Below w.heap.size w W0 := by rw [← hW0]; exact ((Below.refl _ w).alloc (Nat.le_refl _) _).alloc (by simp) _
  have G1 : W0.heap[w.heap.size]? = some (.cells #[.slice an n cn, .slice af m cf] 25 (0, 0)) := by rw [← hW0, Below.heap_alloc _ _ _ (by simp)]; exact heap_alloc_new w _
  have G2 : W0.heap[w.heap.size + 1]? = some (.cells #[.int .i64 o, .int .i64 nd, .int .i64 r, .slice a nk c, .slice al nl cl] 29 (0, 0)) := by
    rw [← hW0]
    have := heap_alloc_new (w.alloc (.cells #[.slice an n cn, .slice af m cf] 25)) (.cells #[.int .i64 o, .int .i64 nd, .int .i64 r, .slice a nk c, .slice al nl cl] 29)
    simpa using this
  have x0 : W0.cell? ⟨w.heap.size, 0, none⟩ = some (.slice an n cn) := by simp [World.cell?, G1]
  have x1 : W0.cell? ⟨w.heap.size, 1, none⟩ = some (.slice af m cf) := by simp [World.cell?, G1]
  have y0 : W0.cell? ⟨w.heap.size + 1, 0, none⟩ = some (.int .i64 o) := by simp [World.cell?, G2]
  have y1 : W0.cell? ⟨w.heap.size + 1, 1, none⟩ = some (.int .i64 nd) := by simp [World.cell?, G2]
  have y2 : W0.cell? ⟨w.heap.size + 1, 2, none⟩ = some (.int .i64 r) := by simp [World.cell?, G2]
  have y3 : W0.cell? ⟨w.heap.size + 1, 3, none⟩ = some (.slice a nk c) := by simp [World.cell?, G2]
  have y4 : W0.cell? ⟨w.heap.size + 1, 4, none⟩ = some (.slice al nl cl) := by simp [World.cell?, G2]
  have h := Tryz.stand_any d dn T _ _ an cn af cf ns fs W0 ((hT.below A0).wider A0.size) ((hN.below A0).wider A0.size) (hO.below A0 hO.lt) hsz hdp hlk
  have hl := T.stand_len ns fs
  obtain ⟨R, hR⟩ : ∃ z, T.standR ns fs = z := ⟨_, rfl⟩
  rw [hR] at h hl ⊢
  obtain ⟨bs, er⟩ := R
  rw [ho, hnd, hr, hnk, hnl, hn, hm] at h ⊢
  obtain ⟨S, hS⟩ : ∃ z, Bk.arrB bs = z := ⟨_, rfl⟩
  have hi : (Tryz.prog.info? 61).map (·.size) = some S.size := by rw [← hS]; exact Bk.arrB_info hl
  have hj2 : S.all (·.oneCell') = true := by rw [← hS]; exact Bk.arrB_all _
  have hj1 : (#[.bool false, .bool false, .bool false, .bool false, .bool false, .bool false, .bool false, .bool false, .bool false, .bool false, .bool false, .bool false, .bool false, .bool false, .bool false, .bool false, .bool false, .bool false, .bool false, .bool false, .bool false, .bool false, .bool false, .bool false] : Array Value).size = S.size := by rw [← hS, Bk.arrB_size]; exact hl.symm
  have HC : Hid (Calls Tryz.prog 17 #[.agg #[.slice an n cn, .slice af m cf], .agg #[.int .i64 o, .int .i64 nd, .int .i64 r, .slice a nk c, .slice al nl cl]] W0 fun e w' => e = .returned (.tuple #[.agg S, .int .i64 er]) ∧ Hid (Below w.heap.size w w')) := by
    rw [hS] at h
    exact h.mono fun _ _ q => ⟨q.1, A0.trans (q.2.mono A0.size)⟩
  have HW0 : Hid _ := hW0
  clear hT hN hO hsz hdp hlk ho hnd hr hnk hnl hn hm hW0 A0 G1 G2 h hl hR hS
  go_enter Tryz.func8, Tryz.ntmps8
  go_upto_region 1 with fail
  rw [HW0.out]
  go_wp2_with fail
  refine Calls.mono HC.out ?_
  rintro e W ⟨rfl, HB⟩
  have N3 := heap_alloc_new W (.cells #[.bool false, .bool false, .bool false, .bool false, .bool false, .bool false, .bool false, .bool false, .bool false, .bool false, .bool false, .bool false, .bool false, .bool false, .bool false, .bool false, .bool false, .bool false, .bool false, .bool false, .bool false, .bool false, .bool false, .bool false] 61)
  clear HC x0 x1 y0 y1 y2 y3 y4
  go_wp2_with (first | refine wpList_store_row rfl 61 _ _ rfl W.heap.size S rfl rfl 61 _ N3 hi hj1 hj2 ?_ | fail)
  go_ret
  exact ⟨rfl, Bk.below_row (HB.out.alloc HB.out.size _) HB.out.size _⟩

end Go.Proofs
