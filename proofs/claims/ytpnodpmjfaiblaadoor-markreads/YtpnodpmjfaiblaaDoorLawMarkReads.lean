/-
  Proved here: of every text, mark.Read gives the same marks as the document's Read, or the place at which there is none, or says that it is too long, and the statement's example holds (MarkReads, promise 1.1), for every string that can be an argument, whatever memory the call begins in.
-/
import Derived.Test.YtpnodpmjfaiblaaDoorLaid
import Derived.Test.YtpnodpmjfaiblaaDoorRefReadW
import Derived.Test.YtpnodpmjfaiblaaDoorLawSame
import Derived.Test.YtpnodpmjfaiblaaDoorCards
import Derived.Test.YtpnodpmjfaiblaaDoorTie
import Derived.Deep.DeepHandedRow
namespace Go.Proofs.YtpnodpmjfaiblaaDoor.MarkReads
open Go.ChangeShapes Go.WideShapes Go.ChangeAt Go.RowKit
open Go.ChangeMaps (open_string shut_string)

theorem own : ownKnob Tryd.prog.godebug = none := by kernel_rfl

set_option maxHeartbeats 1000000 in
theorem read_long (s : ByteArray) (w : World) (hs : s.size ≤ maxLen) (hl : 20000 < s.size) :
    Calls Tryd.prog 9 #[.string s] w fun e w' => e = .returned (.tuple #[.slice none 0 0, .int .i64 0, .int .i64 2]) ∧ w' = w := by
  unfold maxLen at hs
  have hd : decide ((20000 : Int) < s.size) = true := decide_eq_true (by omega)
  go_enter Tryd.func9, Tryd.ntmps9
  go_wp2
  go_ret3
  exact ⟨rfl, rfl⟩

theorem markCells_get : ∀ (qs : List (Mk.MarkV × Value)) (j : Nat) (h : j < qs.length) (i : Nat), i < 5 → (Mk.markCells qs)[j * 5 + i]? = (Mk.cellsOf qs[j])[i]?
  | [], j, h, i, hi => by simp at h
  | a :: r, 0, h, i, hi => by
    simp only [Mk.markCells, List.flatMap_cons, Nat.zero_mul, Nat.zero_add, List.getElem_cons_zero]
    rw [List.getElem?_append_left (by simpa [Mk.cellsOf] using hi)]
  | a :: r, j + 1, h, i, hi => by
    have := markCells_get r j (by simpa using h) i hi
    have e1 : (j + 1) * 5 + i = (j * 5 + i) + 5 := by omega
    simp only [Mk.markCells, List.flatMap_cons, List.getElem_cons_succ] at *
    rw [e1, List.getElem?_append_right (by simp [Mk.cellsOf])]
    simpa [Mk.cellsOf] using this

theorem own_cell2 {w : World} {B : Nat} {e : TypeId} {size : Nat} {g m n cap : Nat} {cs : List Value} (h : w.ownsRow B e size (.slice (some ⟨g, 0, none⟩) m cap) n cs) (j : Nat) (u : Value) (hj : cs[j]? = some u) : w.cell? ⟨g, j, none⟩ = some u := by
  have h1 := h.cells rfl j u hj
  have ea : (⟨g, 0, none⟩ : Addr).add j = ⟨g, j, none⟩ := by unfold Addr.add; split <;> simp_all
  rw [ea] at h1
  exact h1

theorem next_attrs {l : List UInt8} {k : Nat} {ms : List Mk.MarkV} {m : Nat} (h : Mk.nextL l k = some (ms, m)) : ∀ q ∈ ms, q.attrs.length ≤ 64 := by
  unfold Mk.nextL at h
  split at h
  · split at h
    · cases h
    · split at h
      · cases h
      · simp only [Option.some.injEq, Prod.mk.injEq] at h
        obtain ⟨rfl, _⟩ := h
        intro q hq
        simp only [List.mem_singleton] at hq
        subst hq
        simp
  · split at h
    · split at h
      · cases h
      · split at h
        · cases h
        · rename_i xs m' _
          split at h
          · cases h
          · rename_i hu
            have hx : xs.length ≤ 64 := by
              have hu' : Mk.unlikeB xs = true := by simpa using hu
              simp only [Mk.unlikeB, Bool.and_eq_true, decide_eq_true_eq] at hu'
              exact hu'.1
            split at h
            · simp only [Option.some.injEq, Prod.mk.injEq] at h
              obtain ⟨rfl, _⟩ := h
              intro q hq
              simp only [List.mem_singleton] at hq
              subst hq
              exact hx
            · split at h
              · simp only [Option.some.injEq, Prod.mk.injEq] at h
                obtain ⟨rfl, _⟩ := h
                intro q hq
                simp only [List.mem_cons, List.not_mem_nil, or_false] at hq
                rcases hq with rfl | rfl
                · exact hx
                · simp
              · cases h
    · split at h
      · cases h
      · simp only [Option.some.injEq, Prod.mk.injEq] at h
        obtain ⟨rfl, _⟩ := h
        intro q hq
        simp only [List.mem_singleton] at hq
        subst hq
        simp

theorem read_boundF : ∀ (f : Nat) (l : List UInt8) (k : Nat) (ms : List Mk.MarkV), Mk.readF f l k = .ok ms → ms.length ≤ 2 * l.length ∧ ∀ q ∈ ms, q.attrs.length ≤ 64
  | 0, l, k, ms, h => by
    simp only [Mk.readF, Except.ok.injEq] at h
    subst h
    simp
  | f + 1, l, k, ms, h => by
    simp only [Mk.readF] at h
    split at h
    · simp only [Except.ok.injEq] at h
      subst h
      simp
    · rename_i hne
      split at h
      · cases h
      · rename_i ms1 m hx
        split at h
        · cases h
        · rename_i r hr
          simp only [Except.ok.injEq] at h
          subst h
          have h1 := read_boundF f _ _ r hr
          have h2 := Mk.nextL_pos hne hx
          have h3 := next_attrs hx
          rw [List.length_drop] at h1
          refine ⟨by rw [List.length_append]; omega, fun q hq => ?_⟩
          rcases List.mem_append.1 hq with hq | hq
          · exact h3 q hq
          · exact h1.2 q hq
theorem read_bound (l : List UInt8) (k : Nat) (ms : List Mk.MarkV) (h : Mk.readL l k = .ok ms) : ms.length ≤ 2 * l.length ∧ ∀ q ∈ ms, q.attrs.length ≤ 64 := read_boundF _ l k ms h

set_option maxRecDepth 100000 in
set_option maxHeartbeats 4000000 in
theorem walk (s : ByteArray) (w : World) (hs : s.size ≤ maxLen) (hE : Mk.Esc w) :
    Calls Tryd.prog 3 #[.string s] w fun e w' => e = .returned (.bool true) ∧ Below w.heap.size w w' := by
  have HE : Hid (Mk.Esc w) := hE
  clear hE
  by_cases hl : 20000 < s.size
  · have hd : decide ((20000 : Int) < s.size) = true := decide_eq_true (by omega)
    go_enter Tryd.func3, Tryd.ntmps3
    go_wp2_with fail
    refine (read_long s _ hs hl).mono ?_
    rintro e w' ⟨rfl, rfl⟩
    unfold maxLen at hs
    go_wp2_with fail
    refine (Tryd.opens_true _ (by exact HE.out)).mono ?_
    rintro e W3 ⟨rfl, b3⟩
    go_wp2
    go_ret
    exact ⟨rfl, b3⟩
  · have hd : decide ((20000 : Int) < s.size) = false := decide_eq_false (by omega)
    have hs2 : s.size ≤ 20000 := by omega
    clear hs
    go_enter Tryd.func3, Tryd.ntmps3
    go_wp2_with fail
    refine (Tryd.read_any s _ (by exact HE.out) hs2).mono ?_
    rintro e W1 ⟨b1, t1⟩
    unfold Mk.ReadEnd at t1
    have E1 : Hid (Mk.Esc W1) := HE.out.kept (Mk.grown_of_below b1 none) (by simp)
    cases hrd : Mk.readL s.data.toList 0 with
    | error k =>
      rw [hrd] at t1
      subst t1
      go_wp2_with fail
      refine (Tryd.refread_any s _ hs2).mono ?_
      rintro e W2 ⟨b2, t2⟩
      unfold Mk.RefReadEnd at t2
      rw [hrd] at t2
      subst t2
      have B2 := b1.trans (b2.mono b1.size)
      have E2 : Hid (Mk.Esc W2) := E1.out.kept (Mk.grown_of_below b2 none) (by simp)
      have hge : decide ((0 : Int) ≤ (k : Int)) = true := decide_eq_true (by omega)
      clear b1 b2
      go_wp2_with fail
      refine (Tryd.opens_true _ (by exact E2.out.kept (World.grownBy_alloc W2 _ none) (by simp))).mono ?_
      rintro e W3 ⟨rfl, b3⟩
      go_wp2
      go_ret
      exact ⟨rfl, (B2.alloc B2.size _).trans (b3.mono (by have := B2.size; simp; omega))⟩
    | ok ms =>
      rw [hrd] at t1
      obtain ⟨v, qs, rfl, hqs, o1⟩ := t1
      obtain ⟨av, cv, hva⟩ := Mk.own_shape o1.row
      subst hva
      go_wp2_with fail
      refine (Tryd.refread_any s _ hs2).mono ?_
      rintro e W2 ⟨b2, t2⟩
      unfold Mk.RefReadEnd at t2
      rw [hrd] at t2
      obtain ⟨v', qs', rfl, hqs', o2⟩ := t2
      obtain ⟨av', cv', hva'⟩ := Mk.own_shape o2.row
      subst hva'
      have B2 := b1.trans (b2.mono b1.size)
      have E2 : Hid (Mk.Esc W2) := E1.out.kept (Mk.grown_of_below b2 none) (by simp)
      have hlen : qs'.length = qs.length := by
        have h1 := congrArg List.length hqs
        have h2 := congrArg List.length hqs'
        simp only [List.length_map] at h1 h2
        omega
      rw [hlen] at o2 ⊢
      have hme : ∀ k (h : k < qs.length) (h' : k < qs'.length), qs'[k].1 = qs[k].1 := by
        intro k h h'
        have h1 : (qs'.map (·.1))[k]? = (qs.map (·.1))[k]? := by rw [hqs, hqs']
        rw [List.getElem?_map, List.getElem?_map, List.getElem?_eq_getElem h, List.getElem?_eq_getElem h'] at h1
        exact Option.some.inj h1
      have hbd := read_bound _ _ _ hrd
      have hq2 : qs.length ≤ 1000000 := by
        have h1 := congrArg List.length hqs
        have h2 := hbd.1
        simp only [List.length_map] at h1
        rw [Mk.size_list] at h2
        omega
      have hq3 : ∀ k (h : k < qs.length), qs[k].1.attrs.length ≤ 1000000 := by
        intro k h
        have := hbd.2 qs[k].1 (by rw [← hqs]; exact List.mem_map_of_mem (List.getElem_mem h))
        omega
      clear hbd
      have o1' : Mk.MarksOwn (W2.alloc (.cells #[.slice av' qs.length cv', .int .i64 (-1)] 29)) w.heap.size (.slice av qs.length cv) qs := ⟨Mk.own_below (Mk.own_below o1.row b2) ((Below.refl _ _).alloc (Nat.le_refl _) _), fun q hq => Mk.own_below (Mk.own_below (o1.attrs q hq) b2) ((Below.refl _ _).alloc (Nat.le_refl _) _)⟩
      have o2' : Mk.RMarksOwn (W2.alloc (.cells #[.slice av' qs.length cv', .int .i64 (-1)] 29)) W1.heap.size (.slice av' qs.length cv') qs' := ⟨Mk.own_below o2.row ((Below.refl _ _).alloc (Nat.le_refl _) _), fun q hq => Mk.own_below (o2.attrs q hq) ((Below.refl _ _).alloc (Nat.le_refl _) _)⟩
      have O1 : Hid (Mk.MarksOwn (W2.alloc (.cells #[.slice av' qs.length cv', .int .i64 (-1)] 29)) w.heap.size (.slice av qs.length cv) qs) := o1'
      have O2 : Hid (Mk.RMarksOwn (W2.alloc (.cells #[.slice av' qs.length cv', .int .i64 (-1)] 29)) W1.heap.size (.slice av' qs.length cv') qs') := o2'
      have HL : Hid (qs'.length = qs.length) := hlen
      have HM : Hid (∀ k (h : k < qs.length) (h' : k < qs'.length), qs'[k].1 = qs[k].1) := hme
      have HQ3 : Hid (∀ k (h : k < qs.length), qs[k].1.attrs.length ≤ 1000000) := hq3
      have hnn : ((qs.length : Int) != qs.length) = false := by simp
      clear o1 o2 o1' o2' hme hq3 hqs hqs' hlen b1 b2 hrd
      go_wp2
      go_loopg [68] qs.length (fun n i wr => ∃ k : Nat, n + k = qs.length ∧ i = .int .i64 k ∧ Below (W2.heap.size + 1) (W2.alloc (.cells #[.slice av' qs.length cv', .int .i64 (-1)] 29)) wr)
      case atStart => exact ⟨0, by omega, rfl, Below.refl _ _⟩
      case round =>
        obtain ⟨k, hn, rfl, hbw⟩ := hrel
        have hbw' : Below (W2.alloc (.cells #[.slice av' qs.length cv', .int .i64 (-1)] 29)).heap.size (W2.alloc (.cells #[.slice av' qs.length cv', .int .i64 (-1)] 29)) wr := by simpa using hbw
        have BW : Below w.heap.size w wr := (B2.alloc B2.size _).trans (hbw.mono (by have := B2.size; omega))
        have hzw : W2.heap.size + 1 ≤ wr.heap.size := by have := hbw.size; simpa using this
        by_cases hk : k < qs.length
        · have hd2 : decide ((k : Int) < qs.length) = true := decide_eq_true (by omega)
          obtain ⟨g, hav⟩ : ∃ g, av = some ⟨g, 0, none⟩ := by
            rcases O1.out.row.2 with ⟨_, h0⟩ | ⟨g', cap, cur, hv, _⟩
            · omega
            · simp only [Value.slice.injEq] at hv
              exact ⟨g', hv.1⟩
          obtain ⟨g', hav'⟩ : ∃ g, av' = some ⟨g, 0, none⟩ := by
            have hl := HL.out
            rcases O2.out.row.2 with ⟨_, h0⟩ | ⟨g', cap, cur, hv, _⟩
            · omega
            · simp only [Value.slice.injEq] at hv
              exact ⟨g', hv.1⟩
          subst hav hav'
          have hk' : k < qs'.length := by have := HL.out; omega
          have hmk := HM.out k hk hk'
          have hglt : g < (W2.alloc (.cells #[.slice (some ⟨g', 0, none⟩) qs.length cv', .int .i64 (-1)] 29)).heap.size := (O1.out.row.lt g rfl).2
          have hglt' : g' < (W2.alloc (.cells #[.slice (some ⟨g', 0, none⟩) qs.length cv', .int .i64 (-1)] 29)).heap.size := (O2.out.row.lt g' rfl).2
          obtain ⟨⟨mk, va⟩, hqk⟩ : ∃ q, qs[k] = q := ⟨_, rfl⟩
          obtain ⟨⟨mk', vb⟩, hqk'⟩ : ∃ q, qs'[k] = q := ⟨_, rfl⟩
          obtain rfl : mk' = mk := by rw [hqk, hqk'] at hmk; exact hmk
          have hla : mk'.attrs.length ≤ 1000000 := by have := HQ3.out k hk; rw [hqk] at this; exact this
          have A1 : Hid (Mk.AttrsAt wr va mk'.attrs) := Mk.attrsAt_own (Mk.own_below (by have := O1.out.attrs qs[k] (List.getElem_mem hk); rw [hqk] at this; exact this) hbw')
          have A2 : Hid (Mk.AttrsAt wr vb mk'.attrs) := Mk.attrsAt_own (Mk.own_below (by have := O2.out.attrs qs'[k] (List.getElem_mem hk'); rw [hqk'] at this; exact this) hbw')
          obtain ⟨pa, na, ca, rfl⟩ : ∃ p n c, va = .slice p n c := by
            rcases A1.out with ⟨rfl, _⟩ | ⟨_, _, _, rfl, _⟩
            · exact ⟨_, _, _, rfl⟩
            · exact ⟨_, _, _, rfl⟩
          obtain ⟨pb, nb, cb, rfl⟩ : ∃ p n c, vb = .slice p n c := by
            rcases A2.out with ⟨rfl, _⟩ | ⟨_, _, _, rfl, _⟩
            · exact ⟨_, _, _, rfl⟩
            · exact ⟨_, _, _, rfl⟩
          have R1 : ∀ i (hi : i < 5) u, (Mk.cellsOf (mk', .slice pa na ca))[i]? = some u → wr.cell? ⟨g, k * 5 + i, none⟩ = some u := by
            intro i hi u hu
            rw [hbw'.cell (p := ⟨g, k * 5 + i, none⟩) hglt]
            exact Mk.own_cell O1.out.row _ _ (by rw [markCells_get qs k hk i hi, hqk]; exact hu)
          have R2 : ∀ i (hi : i < 5) u, (Mk.cellsOf (mk', .slice pb nb cb))[i]? = some u → wr.cell? ⟨g', k * 5 + i, none⟩ = some u := by
            intro i hi u hu
            rw [hbw'.cell (p := ⟨g', k * 5 + i, none⟩) hglt']
            exact own_cell2 O2.out.row _ _ (by rw [markCells_get qs' k hk' i hi, hqk']; exact hu)
          have x0 := R1 0 (by omega) _ rfl
          have x1 := R1 1 (by omega) _ rfl
          have x2 := R1 2 (by omega) _ rfl
          have x3 := R1 3 (by omega) _ rfl
          have x4 := R1 4 (by omega) _ rfl
          have y0 := R2 0 (by omega) _ rfl
          have y1 := R2 1 (by omega) _ rfl
          have y2 := R2 2 (by omega) _ rfl
          have y3 := R2 3 (by omega) _ rfl
          have y4 := R2 4 (by omega) _ rfl
          have w0 : wr.cell? ⟨W2.heap.size, 0, none⟩ = some (.slice (some ⟨g', 0, none⟩) qs.length cv') := by
            rw [hbw'.cell (p := ⟨W2.heap.size, 0, none⟩) (by simp)]
            simp
          have lt1 : g < wr.heap.size := Nat.lt_of_lt_of_le hglt hbw'.size
          have lt2 : g' < wr.heap.size := Nat.lt_of_lt_of_le hglt' hbw'.size
          have lt3 : W2.heap.size < wr.heap.size := by omega
          simp only [Nat.add_zero] at x0 y0
          clear R1 R2 hmk hqk hqk' hglt hglt'
          go_wp2
          go_region_with (first | (go_at_call 13; refine (Tryd.lawref_any _ _ _ _ _ _ _ (by exact A1.out) hla).mono ?_; rintro e W4 ⟨b4, vc, rfl, oc⟩; have kk : ∀ b o, b < wr.heap.size → W4.cell? ⟨b, o, none⟩ = wr.cell? ⟨b, o, none⟩ := fun b o h => b4.cell (p := ⟨b, o, none⟩) h) | (go_at_call 12; refine (Tryd.same_any _ _ _ _ _ _ _ _ mk'.attrs _ (.inr rfl) (by exact Mk.attrsAt_own oc) (by exact (Mk.AttrsAt.below (w := wr.drew) A2.out b4)) hla).mono ?_; rintro e W5 ⟨rfl, b5⟩))
          all_goals go_wp2
          all_goals
            go_roundg (gk - 1)
            case measure => omega
            case rel =>
              have z4 : wr.heap.size ≤ W4.heap.size := b4.size
              exact ⟨k + 1, by omega, by go_num, (hbw.drew.trans (b4.mono (by show _ ≤ wr.heap.size; omega))).trans (b5.mono (by omega))⟩
        · have hd2 : decide ((k : Int) < qs.length) = false := decide_eq_false (by omega)
          go_wp2_with fail
          refine (Tryd.opens_true _ (by exact E2.out.kept (Mk.grown_trans (World.grownBy_alloc W2 _ none) (Mk.grown_of_below hbw' none)) (by simp))).mono ?_
          rintro e W3 ⟨rfl, b3⟩
          go_wp2
          go_ret
          exact ⟨rfl, BW.trans (b3.mono BW.size)⟩

set_option maxRecDepth 100000 in
theorem contract (H : Type) (enc : TypeId × Value → H) (W : World) (base : Nat) (args : Array Value) (ds gs : List (DataW H)) (before : List MemPlace)
    (hval : ∀ (j : Nat) t v, Tryd.f3.params[j]? = some t → args[j]? = some v → Value.okWide Tryd.prog W .any base t v)
    (hW : DataW.Whole enc Tryd.prog Tryd.f3.params.toList Rows.markReadsSpec.vars false W args.toList ds gs before) (hL : laidMetH Tryd.prog Rows.markReadsRow.laid W) :
    Calls Tryd.prog 3 args W fun e W' => ∃ v, e = .returned v ∧ Rows.markReadsSpec.post enc Tryd.prog Tryd.f3 false true false false W args v W' := by
  have hW' := hW
  obtain ⟨p, q, hA0, hV, rfl, hfz, hnd⟩ := hW
  have hA : DataW.TrodAll enc Tryd.prog W 0 (fun _ => true) true Tryd.f3.params.toList args.toList ds p := hA0
  rw [Tryd.params3] at hA hval
  obtain ⟨v0, vs0, d0, ds0, p0, q0, hargs, rfl, rfl, h0, r0⟩ := trodAll_cons hA
  obtain ⟨rfl, rfl, rfl⟩ := trodAll_nil r0
  obtain rfl : args = #[v0] := by cases args; simp_all
  obtain ⟨rfl, rfl⟩ := trodVars_none hV
  obtain ⟨s, rfl, rfl, rfl, hs⟩ := open_string Tryd.underlying9 (hval 0 9 v0 rfl rfl) h0
  clear hA0
  simp only [List.append_nil] at hW'
  refine (walk s W hs (esc_of_laid hL)).mono fun e W' ⟨he, hb⟩ => ?_
  subst he
  refine ⟨_, rfl, _, _, _, [], [], [], hW', ?_, ?_, rfl, hb.frame _, fun h => by cases h⟩
  · exact trodAll_cons_mk (shut_bool Tryd.underlying4 _) trodAll_mk0
  · exact trodAll_cons_mk (shut_string Tryd.underlying9 hs) trodAll_mk0

/- The witness's world: the settled one, the table (block 0) holding what its initialiser lays. -/
theorem laid_met (os : Os) : laidMet Tryd.prog Rows.markReadsRow.laid (World.forCall ({ World.holding Tryd.prog os ⟨#[], #[], []⟩ with heap := (World.holding Tryd.prog os ⟨#[], #[], []⟩).heap.modify 0 fun | .cells _ t frozen => .cells Mk.escVals t frozen | o => o } : World) (fun _ _ => 0) ⟨#[], #[.string ⟨#[]⟩], []⟩).memory :=
  laidMet_of_run' 8 (by kernel_rfl) (by kernel_rfl)
theorem reads (os : Os) {H : Type} (enc : TypeId × Value → H) : ∃ places, DataW.whole enc Tryd.prog (World.forCall ({ World.holding Tryd.prog os ⟨#[], #[], []⟩ with heap := (World.holding Tryd.prog os ⟨#[], #[], []⟩).heap.modify 0 fun | .cells _ t frozen => .cells Mk.escVals t frozen | o => o } : World) (fun _ _ => 0) ⟨#[], #[.string ⟨#[]⟩], []⟩).memory Tryd.f3.params.toList Rows.markReadsSpec.vars false #[Value.string ⟨#[]⟩].toList 8 = some ([.lit (.string [])], [], places) :=
  ⟨[], by kernel_rfl⟩

set_option maxRecDepth 100000 in
theorem lifted (os : Os) (started : os.Started) (H : Type) (enc : TypeId × Value → H) (F : Stop.Interp) :
    ReturnsInHanded {} Tryd.checked os 3 .any ((OpenSpec.ofChange Rows.markReadsSpec).preRow enc Tryd.prog Tryd.f3 Rows.markReadsRow.domain false Rows.markReadsRow.laid) (((OpenSpec.ofChange Rows.markReadsSpec).at F).post enc Tryd.prog Tryd.f3 false true false false) := by
  obtain ⟨places, hx⟩ := reads os enc
  refine returnsInHanded_of_row (C := Tryd.checked) (s := OpenSpec.ofChange Rows.markReadsSpec) own started (by kernel_rfl) Tryd.func3
    (witness_row_at (enc := enc) (C := Tryd.checked) false ({ World.holding Tryd.prog os ⟨#[], #[], []⟩ with heap := (World.holding Tryd.prog os ⟨#[], #[], []⟩).heap.modify 0 fun | .cells _ t frozen => .cells Mk.escVals t frozen | o => o } : World) #[.string ⟨#[]⟩] rfl (by kernel_rfl) (by kernel_rfl) (by kernel_rfl)
      (OpenSpec.preRow_of_cond 8 hx (by kernel_rfl) (fun k hk => by cases hk) (by kernel_rfl) (laid_met os))) ?_
  intro W base args ds gs before hval hW _ _ _ hL _ _
  exact contract H enc W base args ds gs before hval hW hL

theorem said : Rows.MarkReadsSaid :=
  OpenClaim.holds_of_cond 3 Tryd.f3 rfl rfl rfl rfl rfl rfl rfl ⟨rfl, rfl, rfl, rfl, rfl⟩ rfl rfl rfl rfl rfl (by kernel_rfl) Tryd.func3 (by kernel_rfl)
    (of_decide_eq_true (by kernel_rfl)) (by unfold Func.isWrapper; first | (rw [if_pos (by decide +kernel)]; kernel_rfl) | (rw [if_neg (by decide +kernel)]; exact ⟨rfl, rfl⟩))
    (fun os started H enc _ F => by rw [OpenClaim.pre_eq_preRow]; exact lifted os started H enc F)

theorem plain (f : FuncId) (fn : Func) (hf : Tryd.pinned.checked.prog.funcNamed "treenail/treenaillaw01.MarkReads" = some f) (hfn : Tryd.pinned.checked.prog.funcs[f]? = some fn) :
    false = Tryd.pinned.checked.prog.looks [] ∧ ∀ (j : Nat) t, fn.params[j]? = some t → Tryd.pinned.checked.prog.wantsStandIn t = false := by
  obtain rfl : f = 3 := Option.some.inj ((show Tryd.prog.funcNamed "treenail/treenaillaw01.MarkReads" = some 3 by kernel_rfl).symm.trans hf) |>.symm
  obtain rfl : fn = Tryd.f3 := (Option.some.inj (Tryd.func3.symm.trans hfn)).symm
  refine ⟨by kernel_rfl, fun j t ht => ?_⟩
  rw [Tryd.params3] at ht
  obtain rfl : t = 9 := by simpa using Array.mem_of_getElem? ht
  exact (show Tryd.prog.wantsStandIn 9 = false by kernel_rfl)

/-- The card. -/
theorem card : Rows.MarkReadsCardSaid :=
  Claim7.holds_tied_plain_at .later [] _ _ _ _ said (fun _ h => by cases h) (by kernel_rfl) (fun _ h => by cases h) markReads_row_tie rfl ⟨rfl, rfl⟩ (by kernel_rfl) rfl plain (by kernel_rfl)

end Go.Proofs.YtpnodpmjfaiblaaDoor.MarkReads
namespace Go.Proofs.YtpnodpmjfaiblaaDoor
theorem markReads_card : Rows.MarkReadsCardSaid := MarkReads.card
end Go.Proofs.YtpnodpmjfaiblaaDoor
