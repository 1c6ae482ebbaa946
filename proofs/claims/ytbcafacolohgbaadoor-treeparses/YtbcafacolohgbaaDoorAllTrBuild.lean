import Derived.Test.YtbcafacolohgbaaDoorTrModel
import Derived.Lib.OthersKept
import Derived.Lib.FrozenHead2
import Derived.Lib.UnsafeStr
import Derived.Test.YtbcafacolohgbaaDoorAllShelf
/-
  A builder that lies in a writer: the contracts of its methods (the library's speak of a builder that lies alone).
-/
namespace Go.Proofs
open Go.RowKit
open Go.Proofs.Mk

/-- A writer in block b: these bytes. -/
def Tr.Wr (B b : Nat) (l : List UInt8) (w : World) : Prop := Lib.IsBuilderF 65 5 B b (Lib.byteCells l) w
theorem Tryd.infoByteR : (Tryd.prog.info? 5).map (fun i => (i.zero, i.size, i.bytes)) = some (some (.int .u8 0), 1, 1) := by kernel_rfl
theorem Tryd.infoBuilder : (Tryd.prog.info? 63).map (·.size) = some 2 := by kernel_rfl
theorem Tryd.liesWriter : liesAt Tryd.prog Tryd.prog.depth 65 (2 / Tryd.prog.cellsOf 65) 0 63 1 = true := by kernel_rfl
theorem Tr.strCells (s : ByteArray) : Lib.strCells s = Lib.byteCells s.data.toList := by simp [Lib.strCells, Lib.byteCells]

set_option maxHeartbeats 2000000 in
set_option maxRecDepth 100000 in
theorem Tryd.wcopy_used (b : Nat) (w : World) (h0 : w.cell? ⟨b, 0, none⟩ = some (.pointer (some ⟨b, 0, none⟩))) :
    Calls Tryd.prog 76 #[.pointer (some ⟨b, 0, none⟩)] w fun e w' => e = .returned (.tuple #[]) ∧ w' = w := by
  obtain ⟨j, hj, _⟩ := Option.map_eq_some_iff.1 Tryd.infoBuilder
  go_enter Tryd.func76, Tryd.ntmps76
  go_wp2
  rw [Lib.run_neq_ptr_same w _ Tryd.underlying60 hj]
  go_wp2
  go_end0
  exact ⟨rfl, rfl⟩

set_option maxHeartbeats 2000000 in
set_option maxRecDepth 100000 in
theorem Tryd.wcopy_fresh (b : Nat) (w : World) (h0 : w.cell? ⟨b, 0, none⟩ = some (.pointer none)) (hsh : w.shape? b = some (65, 2)) (hfz : w.frozen? ⟨b, 0, none⟩ = false) :
    Calls Tryd.prog 76 #[.pointer (some ⟨b, 0, none⟩)] w fun e w' => e = .returned (.tuple #[]) ∧ w' = w.setCell ⟨b, 0, none⟩ (.pointer (some ⟨b, 0, none⟩)) := by
  obtain ⟨j, hj, hjs⟩ := Option.map_eq_some_iff.1 Tryd.infoBuilder
  go_enter Tryd.func76, Tryd.ntmps76
  go_wp2
  rw [Lib.run_to_unsafe w ⟨b, 0, none⟩ Tryd.underlying60 Tryd.underlying141 hj (by rw [hjs]; decide) hsh (Nat.zero_lt_succ 1)]
  simp only [Result.andThen]
  rw [Oper.upon_value]
  go_wp2
  rw [run_callFunc_extern Tryd.func87 (by kernel_rfl) (by kernel_rfl) (by kernel_rfl) (e := Extern.AbiNoEscape.same) (by kernel_rfl)]
  rw [Lib.run_noEscape]
  simp only [Result.andThen]
  rw [Oper.upon_value]
  go_wp2
  rw [Lib.run_from_unsafe w ⟨b, 0, none⟩ Tryd.underlying141 Tryd.underlying60 hj hsh Tryd.liesWriter]
  simp only [Result.andThen]
  rw [Oper.upon_value]
  go_wp2
  go_end0
  exact ⟨rfl, rfl⟩

theorem Tryd.wcopy (B b : Nat) (bs : List Value) (w : World) (h : Lib.IsBuilderF 65 5 B b bs w) :
    Calls Tryd.prog 76 #[.pointer (some ⟨b, 0, none⟩)] w fun e w' => e = .returned (.tuple #[]) ∧ Lib.BuilderAtF 65 5 B b (.pointer (some ⟨b, 0, none⟩)) bs w' ∧ Below B w w' ∧ Lib.OthersKept 5 (some b) w w' := by
  rcases h with h | h
  · refine (Tryd.wcopy_fresh b w h.cell0 h.shape h.frozen0).mono ?_
    rintro e w' ⟨rfl, rfl⟩
    exact ⟨rfl, h.used _, (Below.refl B w).setCell (p := ⟨b, 0, none⟩) h.1 _, (Lib.OthersKept.refl _ _ w).setCell ⟨b, 0, none⟩ rfl _⟩
  · refine (Tryd.wcopy_used b w h.cell0).mono ?_
    rintro e w' ⟨rfl, rfl⟩
    exact ⟨rfl, h, Below.refl B _, Lib.OthersKept.refl _ _ _⟩

set_option maxHeartbeats 2000000 in
set_option maxRecDepth 100000 in
theorem Tryd.wstring (B b : Nat) (l : List UInt8) (s : ByteArray) (w : World) (h : Tr.Wr B b l w) (hlen : l.length + s.size ≤ 140737488355328) (hBw : B ≤ w.heap.size) :
    Calls Tryd.prog 57 #[.pointer (some ⟨b, 0, none⟩), .string s] w fun e w' => e = .returned (.tuple #[.int .i64 s.size, .nilIface]) ∧ Tr.Wr B b (l ++ s.data.toList) w' ∧ Below B w w' ∧ Lib.OthersKept 5 (some b) w w' := by
  obtain ⟨i0, hi, hz0, hz1, hz2⟩ := info_parts Tryd.infoByteR
  have HBL : Hid ((Lib.byteCells l).length = l.length) := Lib.byteCells_length l
  go_enter Tryd.func57, Tryd.ntmps57
  go_wp2_with fail
  refine (Tryd.wcopy B b _ _ h).mono ?_
  rintro e w1 ⟨rfl, h1, hb1, hk1⟩
  obtain ⟨hB, v, hbk, hown, hne⟩ := h1
  have c0 : w1.cell? ⟨b, 0, none⟩ = some (.pointer (some ⟨b, 0, none⟩)) := by rw [Lib.cell_of_heap hbk]; rfl
  have c1 : w1.cell? ⟨b, 1, none⟩ = some v := by rw [Lib.cell_of_heap hbk]; rfl
  have HBK : Hid _ := hbk
  clear hbk
  go_wp2_with (at_builtin; refine Lib.wpList_append_own_stringF _ rfl _ _ 61 9 rfl B 5 i0 Tryd.underlying61 Tryd.underlying9 hi hz0 hz1 hz2 _ _ _ rfl hown s rfl ?c3 ?c4 ?c5 ?_)
  case c3 => have := HBL.out; unfold maxLen; omega
  case c4 => have := HBL.out; omega
  case c5 => have := hb1.size; omega
  intro v' w2 hown' hgrow _
  have hlt : b < w1.heap.size := (Array.getElem?_eq_some_iff.1 HBK.out).1
  have hb2 : w2.heap[b]? = some (.cells #[.pointer (some ⟨b, 0, none⟩), v] 65 (0, 0)) := by
    rw [hgrow.block b hlt (fun e => hne e.symm)]
    exact HBK.out
  have d0 : w2.cell? ⟨b, 0, none⟩ = some (.pointer (some ⟨b, 0, none⟩)) := by rw [Lib.cell_of_heap hb2]; rfl
  have d1 : w2.cell? ⟨b, 1, none⟩ = some v := by rw [Lib.cell_of_heap hb2]; rfl
  have f1 : w2.frozen? ⟨b, 1, none⟩ = false := Lib.frozen_of_heap hb2 1
  obtain ⟨ao, n', cap, rfl⟩ : ∃ ao n' cap, v' = .slice ao n' cap := by
    rcases hown'.2 with ⟨hv, _⟩ | ⟨g, cap, cur, fz, hv, _⟩
    · exact ⟨_, _, _, hv⟩
    · exact ⟨_, _, _, hv⟩
  have H2 : Hid _ := hb2
  have HO : Hid _ := hown'
  clear hb2 hown'
  go_wp2
  go_ret2
  refine ⟨rfl, .inr ?_, ?_, (hk1.grown hgrow (Lib.ownsRowF_kind hown)).setCell ⟨b, 1, none⟩ rfl _⟩
  · have e1 : Lib.byteCells (l ++ s.data.toList) = Lib.byteCells l ++ Lib.strCells s := by rw [Tr.strCells, Lib.byteCells_append]
    rw [e1]
    exact Lib.BuilderAtF.put (T := 65) (e := 5) hB H2.out (bs' := Lib.byteCells l ++ Lib.strCells s) (by rw [List.length_append, Lib.strCells_length]; exact HO.out) (by decide)
  · exact (hb1.grown hgrow (by have := hb1.size; omega) (fun k hk => (hown.lt k hk).1)).setCell (p := ⟨b, 1, none⟩) hB _

set_option maxHeartbeats 2000000 in
theorem Tryd.wlen (B b : Nat) (l : List UInt8) (w : World) (h : Tr.Wr B b l w) :
    Calls Tryd.prog 42 #[.pointer (some ⟨b, 0, none⟩)] w fun e w' => e = .returned (.int .i64 l.length) ∧ w' = w := by
  obtain ⟨p, hB, v, hbk, hown, hne⟩ : ∃ p, Lib.BuilderAtF 65 5 B b p (Lib.byteCells l) w := by
    rcases h with h | h
    · exact ⟨_, h⟩
    · exact ⟨_, h⟩
  obtain ⟨ao, cap, rfl⟩ : ∃ ao cap, v = .slice ao l.length cap := by
    rcases hown.2 with ⟨hv, h0⟩ | ⟨g, cap, cur, fz, hv, _⟩
    · exact ⟨none, 0, by rw [hv]; rw [Lib.byteCells_length] at h0; rw [h0]⟩
    · rw [Lib.byteCells_length] at hv; exact ⟨_, _, hv⟩
  have c1 : w.cell? ⟨b, 1, none⟩ = some (.slice ao l.length cap) := by rw [Lib.cell_of_heap hbk]; rfl
  clear hbk hown hne h
  go_enter Tryd.func42, Tryd.ntmps42
  go_wp2
  go_ret
  exact ⟨rfl, rfl⟩

set_option maxHeartbeats 2000000 in
set_option maxRecDepth 100000 in
theorem Tryd.wfull (B b : Nat) (l : List UInt8) (r : Bool) (w : World) (h : Tr.Wr B b l w) (hr : decide ((20000 : Int) < l.length) = r) :
    Calls Tryd.prog 25 #[.pointer (some ⟨b, 0, none⟩)] w fun e w' => e = .returned (.bool r) ∧ w' = w := by
  go_enter Tryd.func25, Tryd.ntmps25
  go_wp2_with fail
  refine (Tryd.wlen B b l _ h).mono ?_
  rintro e w1 ⟨rfl, rfl⟩
  go_wp2
  go_ret
  exact ⟨rfl, rfl⟩

set_option maxHeartbeats 2000000 in
set_option maxRecDepth 100000 in
theorem Tryd.wtext (B b : Nat) (l : List UInt8) (w : World) (h : Tr.Wr B b l w) (h0 : l ≠ []) :
    Calls Tryd.prog 26 #[.pointer (some ⟨b, 0, none⟩)] w fun e w' => e = .returned (.string ⟨l.toArray⟩) ∧ Below B w w' := by
  obtain ⟨p, hB, v, hbk, hown, hne⟩ : ∃ p, Lib.BuilderAtF 65 5 B b p (Lib.byteCells l) w := by
    rcases h with h | h
    · exact ⟨_, h⟩
    · exact ⟨_, h⟩
  have hl0 : l.length ≠ 0 := by simpa using h0
  rw [Lib.byteCells_length] at hown
  obtain ⟨g, cap, cur, fz, rfl, hbg, hg, hfz, hnc, hcm, hcs, htake⟩ : ∃ g cap cur fz, v = .slice (some ⟨g, 0, none⟩) l.length cap ∧ B ≤ g ∧ w.heap[g]? = some (.cells cur 5 fz) ∧ fz.2 ≤ l.length * 1 ∧ l.length ≤ cap ∧ cap ≤ maxLen ∧ cur.size = cap * 1 ∧ cur.toList.take (l.length * 1) = Lib.byteCells l := by
    rcases hown.2 with ⟨_, hz⟩ | ⟨g, cap, cur, fz, hv, r⟩
    · exact absurd hz hl0
    · exact ⟨g, cap, cur, fz, hv, r⟩
  have c1 : w.drew.cell? ⟨b, 1, none⟩ = some (.slice (some ⟨g, 0, none⟩) l.length cap) := by
    have : w.drew.heap[b]? = some (.cells #[p, .slice (some ⟨g, 0, none⟩) l.length cap] 65 (0, 0)) := hbk
    rw [Lib.cell_of_heap this]; rfl
  have hSD : (Builtin.unsafeSliceData_ #[61] 98 #[.slice (some ⟨g, 0, none⟩) l.length cap]).run Tryd.prog w.drew = .ok (.pointer (some ⟨g, 0, none⟩)) w.drew :=
    Lib.run_unsafeSliceData_row _ _ _ _ _ _ (by omega)
  have hUS : (Builtin.unsafeString_ #[98, 3] 9 #[.pointer (some ⟨g, 0, none⟩), .int .i64 l.length]).run Tryd.prog w.drew = .ok (.string ⟨l.toArray⟩) (w.drew.freeze ⟨g, 0, none⟩ l.length) := by
    refine Lib.run_unsafeString_row w.drew 98 3 9 5 Tryd.underlying98 (by kernel_rfl) g cur.size (by have hg' : w.drew.heap[g]? = some (.cells cur 5 fz) := hg; simp [World.shape?, hg']) l h0 (by omega) (by unfold maxLen at hcm; omega) ?_
    intro j x hx
    have := hown.cells (g := g) rfl j (.int .u8 x.toNat) (by simp [Lib.byteCells, hx])
    exact this
  clear hown htake hcs hne
  go_enter Tryd.func26, Tryd.ntmps26
  go_wp2
  go_region
  all_goals (go_wp2; go_ret; exact ⟨rfl, Lib.below_freeze (Below.drew (Below.refl B w)) (p := ⟨g, 0, none⟩) hbg _⟩)

end Go.Proofs

/-
  The contracts of strings.TrimSuffix and of the writer's put.
-/
namespace Go.Proofs
open Go.RowKit
open Go.Proofs.Mk
open Go.Shelf

def Tryd.tren : Go.Shelf.Ren := ⟨fun | 102 => 40 | 209 => 58 | 207 => 77 | n => n, fun | 9 => 9 | 4 => 4 | 3 => 3 | n => n, fun | n => n⟩
theorem Tryd.bl102 : Go.Proofs.Lays.n102 Tryd.prog Tryd.tren := {
  mixed := by kernel_rfl
  f102 := Tryd.func40.trans (congrArg some (by kernel_rfl))
  f209 := Tryd.func58.trans (congrArg some (by kernel_rfl))
  f207 := Tryd.func77.trans (congrArg some (by kernel_rfl))
  t3 := Tryd.underlying3
  a3 := Tryd.isAgg3
  z3 := Tryd.sizeOf3
  v3 := Tryd.zeroValue3
  t4 := Tryd.underlying4
  a4 := Tryd.isAgg4
  z4 := Tryd.sizeOf4
  v4 := Tryd.zeroValue4
  t9 := Tryd.underlying9
  a9 := Tryd.isAgg9
  z9 := Tryd.sizeOf9
  v9 := Tryd.zeroValue9 }
theorem Tryd.trim_any (s p : ByteArray) (w : World) (hs : s.size ≤ 9223372036854775807) :
    Calls Tryd.prog 40 #[.string s, .string p] w fun e w' => e = .returned (.string ⟨(Lib.trimSuffix s.data.toList p.data.toList).toArray⟩) ∧ w' = w := Any.strings_TrimSuffix Tryd.bl102 s p w hs

/-- What put leaves. -/
def Tr.put1 (l p : List UInt8) : List UInt8 := if 20000 < l.length then l else l ++ p
def Tr.putAll (l : List UInt8) : List (List UInt8) → List UInt8
  | [] => l
  | p :: r => Tr.putAll (Tr.put1 l p) r
theorem Tr.putAll_append (l : List UInt8) (a b : List (List UInt8)) : Tr.putAll l (a ++ b) = Tr.putAll (Tr.putAll l a) b := by
  induction a generalizing l with
  | nil => rfl
  | cons p r ih => exact ih _
theorem Tr.put1_le {l p : List UInt8} {M : Nat} (hl : l.length ≤ 20000 + M) (hp : p.length ≤ M) : (Tr.put1 l p).length ≤ 20000 + M := by
  unfold Tr.put1
  split
  · exact hl
  · rw [List.length_append]; omega
theorem Tr.putAll_le {M : Nat} : ∀ (ps : List (List UInt8)) (l : List UInt8), l.length ≤ 20000 + M → (∀ p ∈ ps, p.length ≤ M) → (Tr.putAll l ps).length ≤ 20000 + M
  | [], _, hl, _ => hl
  | p :: r, l, hl, hp => Tr.putAll_le r _ (Tr.put1_le hl (hp p (by simp))) fun q hq => hp q (by simp [hq])
/-- The text that was meant, or both are too long. -/
def Tr.Meant (l t : List UInt8) : Prop := l = t ∨ (20000 < l.length ∧ 20000 < t.length)
theorem Tr.Meant.put1 {l t : List UInt8} (h : Tr.Meant l t) (p : List UInt8) : Tr.Meant (Tr.put1 l p) (t ++ p) := by
  unfold Tr.put1
  rcases h with rfl | ⟨h1, h2⟩
  · split
    · rename_i h; exact .inr ⟨h, by rw [List.length_append]; omega⟩
    · exact .inl rfl
  · rw [if_pos h1]; exact .inr ⟨h1, by rw [List.length_append]; omega⟩
theorem Tr.Meant.putAll : ∀ (ps : List (List UInt8)) {l t : List UInt8}, Tr.Meant l t → Tr.Meant (Tr.putAll l ps) (t ++ ps.flatten)
  | [], l, t, h => by simpa [Tr.putAll] using h
  | p :: r, l, t, h => by
    have := Tr.Meant.putAll r (h.put1 p)
    simpa [Tr.putAll, List.append_assoc] using this

theorem Tr.Wr.kept {B b : Nat} {l : List UInt8} {w w' : World} (h : Tr.Wr B b l w) (hb : Below w.heap.size w w') : Tr.Wr B b l w' := Mk.builder_below h hb
theorem Tr.others_of {e : TypeId} {b : Option Nat} {w w' : World} (hb : Below w.heap.size w w') : Lib.OthersKept e b w w' := fun k _ hk _ _ => (hb.block k (Array.getElem?_eq_some_iff.1 hk).1).trans hk

set_option maxHeartbeats 4000000 in
theorem Tryd.wput (B b gp : Nat) (M : Nat) (ps : List ByteArray) (l : List UInt8) (w : World) (h : Tr.Wr B b l w) (hBw : B ≤ w.heap.size) (hM : M ≤ 1000000000) (hl : l.length ≤ 20000 + M) (hp : ∀ p ∈ ps, p.size ≤ M) (hn : ps.length ≤ 1000) (hgb : gp ≠ b)
    (hg : w.heap[gp]? = some (.cells (ps.map fun p => Value.string p).toArray 9 (0, 0))) :
    Calls Tryd.prog 39 #[.pointer (some ⟨b, 0, none⟩), .slice (some ⟨gp, 0, none⟩) ps.length ps.length] w fun e w' => e = .returned (.tuple #[]) ∧ Tr.Wr B b (Tr.putAll l (ps.map (·.data.toList))) w' ∧ Below B w w' ∧ Lib.OthersKept 5 (some b) w w' := by
  have HG : Hid _ := hg
  have HP : Hid _ := hp
  have HH : Hid _ := h
  clear hg hp h
  go_enter Tryd.func39, Tryd.ntmps39
  go_wp2
  go_loopg [8] ps.length (fun g i wr => ∃ k : Nat, g + k = ps.length ∧ i = .int .i64 k ∧ Hid (Tr.Wr B b (Tr.putAll l ((ps.take k).map (·.data.toList))) wr ∧ Below B w wr ∧ Lib.OthersKept 5 (some b) w wr))
  case atStart => exact ⟨0, by omega, rfl, (HH.out : Tr.Wr B b l w), Below.refl _ _, Lib.OthersKept.refl _ _ _⟩
  case round =>
    obtain ⟨k, hk0, rfl, HR⟩ := hrel
    by_cases hk : k < ps.length
    · have hd : decide ((k : Int) < ps.length) = true := decide_eq_true (by omega)
      have hgr := HR.out.2.2 gp _ HG.out (by intro e; exact hgb (Option.some.inj e)) (by intro c fz e; cases e)
      obtain ⟨x, hx⟩ : ∃ x, ps[k] = x := ⟨_, rfl⟩
      have hc : wr.cell? ⟨gp, k, none⟩ = some (.string x) := by simp [World.cell?, hgr, hk, hx]
      obtain ⟨acc, hacc⟩ : ∃ a, Tr.putAll l ((ps.take k).map (·.data.toList)) = a := ⟨_, rfl⟩
      have hal : acc.length ≤ 20000 + M := by
        rw [← hacc]
        refine Tr.putAll_le _ _ hl fun p hp => ?_
        obtain ⟨q, hq, rfl⟩ := List.mem_map.1 hp
        rw [Mk.size_list]
        exact HP.out q (List.mem_of_mem_take hq)
      have hxl : x.size ≤ M := by rw [← hx]; exact HP.out _ (List.getElem_mem hk)
      have HN : Hid (Tr.putAll l ((ps.take (k + 1)).map (·.data.toList)) = Tr.put1 acc x.data.toList) := by
        show _ = _
        rw [List.take_succ_eq_append_getElem hk, List.map_append, Tr.putAll_append, hacc, hx]
        rfl
      have HW : Hid (Tr.Wr B b acc wr) := by show Tr.Wr _ _ _ _; rw [← hacc]; exact HR.out.1
      clear hgr hx hacc
      cases hf : decide ((20000 : Int) < acc.length)
      · have HF : Hid (Tr.put1 acc x.data.toList = acc ++ x.data.toList) := by
          show _ = _
          unfold Tr.put1
          rw [if_neg (by have := of_decide_eq_false hf; omega)]
        go_wp2_with fail
        refine (Tryd.wfull B b acc false _ (by exact HW.out) hf).mono ?_
        rintro e W1 ⟨rfl, rfl⟩
        go_wp2_with fail
        refine (Tryd.wstring B b acc x _ (by exact HW.out) (by omega) (by have := HR.out.2.1.size; omega)).mono ?_
        rintro e W2 ⟨rfl, h2, b2, o2⟩
        have H2 : Hid (Tr.Wr B b (acc ++ x.data.toList) W2 ∧ Below B w W2 ∧ Lib.OthersKept 5 (some b) w W2) := ⟨h2, HR.out.2.1.trans b2, HR.out.2.2.trans o2⟩
        clear h2 b2 o2 hf
        go_wp2
        go_roundg (gk - 1)
        case measure => omega
        case rel => exact ⟨k + 1, by omega, by go_num, by rw [HN.out, HF.out]; exact H2.out⟩
      · have HF : Hid (Tr.put1 acc x.data.toList = acc) := by
          show _ = _
          unfold Tr.put1
          rw [if_pos (by have := of_decide_eq_true hf; omega)]
        go_wp2_with fail
        refine (Tryd.wfull B b acc true _ (by exact HW.out) hf).mono ?_
        rintro e W1 ⟨rfl, rfl⟩
        clear hf
        go_wp2
        go_roundg (gk - 1)
        case measure => omega
        case rel => exact ⟨k + 1, by omega, by go_num, by rw [HN.out, HF.out]; exact ⟨HW.out, HR.out.2.1, HR.out.2.2⟩⟩
    · have hd : decide ((k : Int) < ps.length) = false := decide_eq_false (by omega)
      have hall : ps.take k = ps := List.take_of_length_le (by omega)
      have HZ := HR.out
      rw [hall] at HZ
      have HZ' : Hid _ := HZ
      clear HZ hall
      go_wp2
      go_end0
      exact ⟨rfl, HZ'.out⟩

end Go.Proofs

/-
  The contract of the writer's inside, and what an element's head is.
-/
namespace Go.Proofs
open Go.RowKit
open Go.Proofs.Mk

theorem Tr.wrLe (c : Int) : (wrL c).length ≤ 6 := by
  unfold wrL
  split
  · simp
  · unfold signL
    repeat' split
    all_goals simp
theorem Tr.escLe (l : List UInt8) : (Mk.escF l).length ≤ 6 * l.length := by
  induction l with
  | nil => simp [Mk.escF]
  | cons c r ih =>
    have h1 := Tr.wrLe (c.toNat : Int)
    have h2 : Mk.escF (c :: r) = wrL (c.toNat : Int) ++ Mk.escF r := by simp [Mk.escF]
    rw [h2, List.length_append, List.length_cons]
    omega
theorem Tr.attrsLe : ∀ xs : List (ByteArray × ByteArray), (Mk.attrsW xs).length ≤ 6 * El.attrsW xs
  | [] => by simp [Mk.attrsW, El.attrsW]
  | a :: r => by
    have h1 := Tr.attrsLe r
    have h2 : Mk.attrsW (a :: r) = Mk.attrW a ++ Mk.attrsW r := by simp [Mk.attrsW]
    have h4 := Tr.escLe a.2.data.toList
    rw [Mk.size_list] at h4
    have h5 : (Mk.attrW a).length = a.1.size + (Mk.escF a.2.data.toList).length + 4 := by
      simp only [Mk.attrW, List.length_cons, List.length_append, List.length_nil, Mk.size_list]
      omega
    rw [h2, List.length_append, h5]
    simp only [El.attrsW]
    omega
theorem Tr.name_le {nm : ByteArray} (hn : nameL nm.data.toList = true) : nm.size ≤ 24 := by
  have := ((nameL_iff _).1 hn).1.2
  rw [Mk.size_list] at this
  exact this
/-- An element's head: written, or of another form. -/
theorem Tr.head_cases (E : El) : (E.headW.2 = 0 ∧ E.headW.1 = ⟨(Mk.openW E.name E.attrs ++ [62]).toArray⟩ ∧ E.name.size ≤ 24 ∧ E.headW.1.size ≤ 26 + 6 * El.attrsW E.attrs) ∨ (E.headW.2 = 4 ∧ E.headW.1 = ⟨#[]⟩) := by
  unfold El.headW Mk.wMark
  rw [if_pos rfl]
  unfold Mk.wOpen
  split
  · rename_i h
    left
    have h1 := Tr.name_le h.1
    have h2 := Tr.attrsLe E.attrs
    refine ⟨rfl, rfl, h1, ?_⟩
    simp only [ByteArray.size, List.size_toArray, List.length_append, Mk.openW, List.length_cons, List.length_nil]
    have h3 : E.name.data.toList.length = E.name.size := Mk.size_list _
    omega
  · exact .inr ⟨rfl, rfl⟩
theorem Tr.trim_head (E : El) (h : E.headW.2 = 0) : Lib.trimSuffix E.headW.1.data.toList [62] = E.headW.1.data.toList.dropLast := by
  rcases Tr.head_cases E with ⟨_, h1, _⟩ | ⟨h1, _⟩
  · rw [h1]
    simp only [Lib.trimSuffix, Lib.hasSuffix]
    have hs : List.isSuffixOf [62] (Mk.openW E.name E.attrs ++ [62] : List UInt8) = true := by rw [List.isSuffixOf_iff_suffix]; exact ⟨_, rfl⟩
    simp [hs]
  · omega
theorem Tr.trim_le (a p : List UInt8) : (Lib.trimSuffix a p).length ≤ a.length := by
  unfold Lib.trimSuffix
  split
  · simp
  · exact Nat.le_refl _
theorem Tr.esc_below {w w' : World} {B : Nat} (h : Mk.Esc w) (hb : Below B w w') (h0 : 0 < B) : Mk.Esc w' := by
  obtain ⟨t, fz, h⟩ := h
  exact ⟨t, fz, (hb.block 0 h0).trans h⟩
theorem Tr.esc_pos {w : World} (h : Mk.Esc w) : 0 < w.heap.size := by
  obtain ⟨t, fz, h⟩ := h
  exact (Array.getElem?_eq_some_iff.1 h).1

/-- How writing an element ends. -/
def Tr.ElemEnd (B b : Nat) (t : List UInt8) (ok : Bool) (x : List UInt8) (w : World) (e : Ending) (w' : World) : Prop :=
  Below B w w' ∧ Lib.OthersKept 5 (some b) w w' ∧ ((ok = true ∧ e = .returned (.int .i64 0) ∧ ∃ l', Tr.Wr B b l' w' ∧ Tr.Meant l' (t ++ x) ∧ l'.length ≤ 1020000) ∨ (ok = false ∧ e = .returned (.int .i64 4)))
/-- The contract of the writer's elem, of elements of so many levels. -/
def Tr.ElemC (d : Nat) : Prop := ∀ (B b : Nat) (E : El) (va vk : Value) (l t : List UInt8) (w : World), El.Lies w (· < B) d va vk E → E.Reach → E.weight ≤ 100000 → B ≤ w.heap.size → Mk.Esc w → 0 < B → Tr.Wr B b l w → Tr.Meant l t → l.length ≤ 1020000 →
    Calls Tryd.prog 24 #[.pointer (some ⟨b, 0, none⟩), .agg #[.string E.name, va, vk, .string E.text]] w fun e w' => Tr.ElemEnd B b t E.formB E.textL w e w'

theorem Tr.form_kids {E : El} (h : E.ownForm = true) (hk : E.kids ≠ []) : E.text.data.toList = [] := by
  simp only [El.ownForm, Bool.and_eq_true, Bool.or_eq_true, decide_eq_true_eq] at h
  exact h.2.resolve_right hk

end Go.Proofs
