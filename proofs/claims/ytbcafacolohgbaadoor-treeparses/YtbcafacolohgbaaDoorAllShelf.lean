import Derived.Shelf.Strings.BuilderF
import Derived.Shelf.Strings.BuilderK
import Derived.Shelf.Strings.Prefix
import Derived.Test.YtbcafacolohgbaaDoorProg
import Derived.WalkKit
import Derived.WalkLawsBesides
import Derived.WalkSpells
import Derived.BigQuiet
import Derived.Deep.QuietTactic
import Derived.BigCall
/-
  The library's contracts on strings.Builder and on strings' prefixes and suffixes, laid at this program (each one application of a theorem of the kit's library).
-/
namespace Go.Proofs
open Go.Shelf
def Tryd.bren : Go.Shelf.Ren := ⟨fun | 166 => 57 | 167 => 84 | 169 => 26 | 240 => 76 | 276 => 87 | n => n, fun | 0 => 0 | 3 => 3 | 4 => 4 | 5 => 5 | 9 => 9 | 20 => 20 | 37 => 61 | 70 => 60 | 72 => 63 | 75 => 115 | 80 => 66 | 127 => 98 | 164 => 141 | n => n, fun | n => n⟩
theorem Tryd.bl166 : Go.Proofs.Lays.n166 Tryd.prog Tryd.bren := {
  mixed := by kernel_rfl
  f166 := Tryd.func57.trans (congrArg some (by kernel_rfl))
  f240 := Tryd.func76.trans (congrArg some (by kernel_rfl))
  f276 := Tryd.func87.trans (congrArg some (by kernel_rfl))
  t0 := Tryd.underlying0
  a0 := Tryd.isAgg0
  z0 := Tryd.sizeOf0
  v0 := Tryd.zeroValue0
  t3 := Tryd.underlying3
  a3 := Tryd.isAgg3
  z3 := Tryd.sizeOf3
  v3 := Tryd.zeroValue3
  t4 := Tryd.underlying4
  a4 := Tryd.isAgg4
  z4 := Tryd.sizeOf4
  v4 := Tryd.zeroValue4
  t9 := Tryd.underlying9
  a9 := Tryd.isAgg9
  z9 := Tryd.sizeOf9
  v9 := Tryd.zeroValue9
  t20 := Tryd.underlying20
  a20 := Tryd.isAgg20
  z20 := Tryd.sizeOf20
  v20 := Tryd.zeroValue20
  t37 := Tryd.underlying61
  a37 := Tryd.isAgg61
  z37 := Tryd.sizeOf61
  v37 := Tryd.zeroValue61
  t70 := Tryd.underlying60
  a70 := Tryd.isAgg60
  z70 := Tryd.sizeOf60
  v70 := Tryd.zeroValue60
  t72 := Tryd.underlying63
  a72 := Tryd.isAgg63
  z72 := Tryd.sizeOf63
  v72 := Tryd.zeroValue63
  t75 := Tryd.underlying115
  a75 := Tryd.isAgg115
  z75 := Tryd.sizeOf115
  v75 := Tryd.zeroValue115
  t164 := Tryd.underlying141
  a164 := Tryd.isAgg141
  z164 := Tryd.sizeOf141
  v164 := Tryd.zeroValue141 }
theorem Tryd.bl167 : Go.Proofs.Lays.n167 Tryd.prog Tryd.bren := {
  mixed := by kernel_rfl
  f167 := Tryd.func84.trans (congrArg some (by kernel_rfl))
  f240 := Tryd.func76.trans (congrArg some (by kernel_rfl))
  f276 := Tryd.func87.trans (congrArg some (by kernel_rfl))
  t0 := Tryd.underlying0
  a0 := Tryd.isAgg0
  z0 := Tryd.sizeOf0
  v0 := Tryd.zeroValue0
  t4 := Tryd.underlying4
  a4 := Tryd.isAgg4
  z4 := Tryd.sizeOf4
  v4 := Tryd.zeroValue4
  t5 := Tryd.underlying5
  a5 := Tryd.isAgg5
  z5 := Tryd.sizeOf5
  v5 := Tryd.zeroValue5
  t9 := Tryd.underlying9
  a9 := Tryd.isAgg9
  z9 := Tryd.sizeOf9
  v9 := Tryd.zeroValue9
  t20 := Tryd.underlying20
  a20 := Tryd.isAgg20
  z20 := Tryd.sizeOf20
  v20 := Tryd.zeroValue20
  t37 := Tryd.underlying61
  a37 := Tryd.isAgg61
  z37 := Tryd.sizeOf61
  v37 := Tryd.zeroValue61
  t70 := Tryd.underlying60
  a70 := Tryd.isAgg60
  z70 := Tryd.sizeOf60
  v70 := Tryd.zeroValue60
  t72 := Tryd.underlying63
  a72 := Tryd.isAgg63
  z72 := Tryd.sizeOf63
  v72 := Tryd.zeroValue63
  t75 := Tryd.underlying115
  a75 := Tryd.isAgg115
  z75 := Tryd.sizeOf115
  v75 := Tryd.zeroValue115
  t164 := Tryd.underlying141
  a164 := Tryd.isAgg141
  z164 := Tryd.sizeOf141
  v164 := Tryd.zeroValue141 }
theorem Tryd.bl169 : Go.Proofs.Lays.n169 Tryd.prog Tryd.bren := {
  mixed := by kernel_rfl
  f169 := Tryd.func26.trans (congrArg some (by kernel_rfl))
  t0 := Tryd.underlying0
  a0 := Tryd.isAgg0
  z0 := Tryd.sizeOf0
  v0 := Tryd.zeroValue0
  t3 := Tryd.underlying3
  a3 := Tryd.isAgg3
  z3 := Tryd.sizeOf3
  v3 := Tryd.zeroValue3
  t9 := Tryd.underlying9
  a9 := Tryd.isAgg9
  z9 := Tryd.sizeOf9
  v9 := Tryd.zeroValue9
  t37 := Tryd.underlying61
  a37 := Tryd.isAgg61
  z37 := Tryd.sizeOf61
  v37 := Tryd.zeroValue61
  t70 := Tryd.underlying60
  a70 := Tryd.isAgg60
  z70 := Tryd.sizeOf60
  v70 := Tryd.zeroValue60
  t72 := Tryd.underlying63
  a72 := Tryd.isAgg63
  z72 := Tryd.sizeOf63
  v72 := Tryd.zeroValue63
  t127 := Tryd.underlying98
  a127 := Tryd.isAgg98
  z127 := Tryd.sizeOf98
  v127 := Tryd.zeroValue98 }
theorem Tryd.bx : Builder.Extra Tryd.prog Tryd.bren := {
  sizeBuilder := by kernel_rfl
  liesBuilder := by kernel_rfl
  t5 := Tryd.underlying5
  a5 := Tryd.isAgg5
  z5 := Tryd.sizeOf5
  v5 := Tryd.zeroValue5
  infoByte := by kernel_rfl
  cellsByte := by kernel_rfl
  sizeByte := by kernel_rfl
  neB5 := by decide }
open Go.RowKit in
theorem Tryd.Builder_WriteString_k (B b : Nat) (bs : List Value) (s : ByteArray) (w : World) (h : Lib.IsBuilderF 63 5 B b bs w) (hlen : bs.length + s.size ≤ 140737488355328) (hBw : B ≤ w.heap.size) :
    Calls Tryd.prog 57 #[.pointer (some ⟨b, 0, none⟩), .string s] w fun e w' => e = .returned (.tuple #[.int .i64 s.size, .nilIface]) ∧ (Lib.BuilderAtF 63 5 B b (.pointer (some ⟨b, 0, none⟩)) (bs ++ Lib.strCells s) w' ∧ Below B w w' ∧ Lib.OthersKept 5 (some b) w w') :=
  Any.Builder_WriteString_k Tryd.bl166 Tryd.bx B b bs s w h hlen hBw
open Go.RowKit in
theorem Tryd.Builder_WriteByte_k (B b : Nat) (bs : List Value) (c : Int) (w : World) (h : Lib.IsBuilderF 63 5 B b bs w) (hlen : bs.length + 1 ≤ 140737488355328) (hBw : B ≤ w.heap.size) :
    Calls Tryd.prog 84 #[.pointer (some ⟨b, 0, none⟩), .int .u8 c] w fun e w' => e = .returned .nilIface ∧ (Lib.BuilderAtF 63 5 B b (.pointer (some ⟨b, 0, none⟩)) (bs ++ [.int .u8 c]) w' ∧ Below B w w' ∧ Lib.OthersKept 5 (some b) w w') :=
  Any.Builder_WriteByte_k Tryd.bl167 Tryd.bx B b bs c w h hlen hBw
open Go.RowKit in
theorem Tryd.Builder_String_any_k (B b : Nat) (l : List UInt8) (w : World) (h : Lib.IsBuilderF 63 5 B b (Lib.byteCells l) w) (hBw : B ≤ w.heap.size) :
    Calls Tryd.prog 26 #[.pointer (some ⟨b, 0, none⟩)] w fun e w' => e = .returned (.string ⟨l.toArray⟩) ∧ (Lib.IsBuilderF 63 5 B b (Lib.byteCells l) w' ∧ Below B w w' ∧ Lib.OthersKept 5 (some b) w w') :=
  Any.Builder_String_any_k Tryd.bl169 Tryd.bx B b l w h hBw
def Tryd.sren : Go.Shelf.Ren := ⟨fun | 99 => 80 | 206 => 88 | n => n, fun | 9 => 9 | 4 => 4 | 3 => 3 | n => n, fun | n => n⟩
theorem Tryd.bl99 : Go.Proofs.Lays.n99 Tryd.prog Tryd.sren := {
  mixed := by kernel_rfl
  f99 := Tryd.func80.trans (congrArg some (by kernel_rfl))
  f206 := Tryd.func88.trans (congrArg some (by kernel_rfl))
  t3 := Tryd.underlying3
  a3 := Tryd.isAgg3
  z3 := Tryd.sizeOf3
  v3 := Tryd.zeroValue3
  t4 := Tryd.underlying4
  a4 := Tryd.isAgg4
  z4 := Tryd.sizeOf4
  v4 := Tryd.zeroValue4
  t9 := Tryd.underlying9
  a9 := Tryd.isAgg9
  z9 := Tryd.sizeOf9
  v9 := Tryd.zeroValue9 }
open Go.RowKit in
theorem Tryd.strings_HasPrefix (s p : ByteArray) (w : World) :
    Calls Tryd.prog 80 #[.string s, .string p] w fun e w' => e = .returned (.bool (Lib.hasPrefix s.data.toList p.data.toList)) ∧ w' = w :=
  Any.strings_HasPrefix Tryd.bl99 s p w
end Go.Proofs

/-
  Plain mathematics of marks: which bytes are plain, which are in names, what is written for a byte. It speaks of no program.
-/
namespace Go.Proofs.Mk

/-- plain, of a rune. -/
def plainB (r : Int) : Bool := decide (32 ≤ r ∧ r ≤ 126 ∨ r = 10)
def letterB (r : Int) : Bool := decide (97 ≤ r ∧ r ≤ 122)
def ofNameB (r : Int) : Bool := decide ((97 ≤ r ∧ r ≤ 122 ∨ 48 ≤ r ∧ r ≤ 57) ∨ r = 45)

/-- The same of a byte. -/
def bplain (c : UInt8) : Bool := plainB c.toNat
def bletter (c : UInt8) : Bool := letterB c.toNat
def bofName (c : UInt8) : Bool := ofNameB c.toNat

/-- inName(c, first). -/
def inNameB (c : Int) (first : Bool) : Bool := letterB c || (!first && ofNameB c)

/-- What stands for a byte; empty: itself. -/
def signL (c : Int) : List UInt8 := if c = 60 then [38, 108, 116, 59] else if c = 62 then [38, 103, 116, 59] else if c = 38 then [38, 97, 109, 112, 59] else if c = 34 then [38, 113, 117, 111, 116, 59] else []

/-- What is written for a plain byte. -/
def wrL (c : Int) : List UInt8 := if signL c = [] then [UInt8.ofNat c.toNat] else signL c

/-- A name. -/
def nameL (l : List UInt8) : Bool := decide (1 ≤ l.length ∧ l.length ≤ 24) && (match l with | [] => true | c :: r => bletter c && r.all bofName)

theorem letter_ofName {r : Int} (h : letterB r = true) : ofNameB r = true := by
  simp only [letterB, ofNameB, decide_eq_true_eq] at *
  omega

theorem inNameB_zero (c : UInt8) : inNameB c.toNat true = bletter c := by simp [inNameB, bletter]
theorem inNameB_pos (c : UInt8) : inNameB c.toNat false = bofName c := by
  unfold inNameB bofName
  cases h : letterB c.toNat
  · simp
  · simp [letter_ofName h]

theorem nameL_iff (l : List UInt8) : nameL l = true ↔ (1 ≤ l.length ∧ l.length ≤ 24) ∧ ∀ j (h : j < l.length), inNameB l[j].toNat (j == 0) = true := by
  cases l with
  | nil => simp [nameL]
  | cons c r =>
    simp only [nameL, Bool.and_eq_true, decide_eq_true_eq, List.all_eq_true]
    constructor
    · rintro ⟨h, h1, h2⟩
      refine ⟨h, fun j hj => ?_⟩
      cases j with
      | zero => simpa [inNameB_zero] using h1
      | succ k =>
        have hk : k < r.length := by simpa using hj
        have := h2 r[k] (List.getElem_mem hk)
        simpa [inNameB_pos] using this
    · rintro ⟨h, h1⟩
      refine ⟨h, ?_, fun x hx => ?_⟩
      · rw [← inNameB_zero]; exact h1 0 (by simp)
      · obtain ⟨k, hk, rfl⟩ := List.getElem_of_mem hx
        rw [← inNameB_pos]; exact h1 (k + 1) (by simpa using hk)

theorem nameL_false {l : List UInt8} {j : Nat} (h : j < l.length) (hn : inNameB l[j].toNat (j == 0) = false) : nameL l = false := by
  cases hc : nameL l
  · rfl
  · rw [(nameL_iff l).1 hc |>.2 j h] at hn
    cases hn

theorem nameL_short {l : List UInt8} (h : l.length < 1) : nameL l = false := by
  cases hc : nameL l
  · rfl
  · have := (nameL_iff l).1 hc
    omega
theorem nameL_long {l : List UInt8} (h : 24 < l.length) : nameL l = false := by
  cases hc : nameL l
  · rfl
  · have := (nameL_iff l).1 hc
    omega

theorem tw_in {p : UInt8 → Bool} : ∀ (l : List UInt8) (j : Nat), j < (l.takeWhile p).length → ∃ h : j < l.length, p l[j] = true
  | [], j, h => by simp at h
  | c :: r, j, h => by
    cases hc : p c
    · simp [hc] at h
    · rw [List.takeWhile_cons, if_pos hc] at h
      cases j with
      | zero => exact ⟨by simp, hc⟩
      | succ j =>
        obtain ⟨h1, h2⟩ := tw_in r j (by simpa using h)
        exact ⟨by simpa using h1, h2⟩

theorem tw_out {p : UInt8 → Bool} : ∀ (l : List UInt8) (h : (l.takeWhile p).length < l.length), p (l[(l.takeWhile p).length]'h) = false
  | [], h => by simp at h
  | c :: r, h => by
    cases hc : p c
    · simp [hc]
    · have h' : (r.takeWhile p).length < r.length := by simpa [List.takeWhile_cons, hc] using h
      have := tw_out r h'
      simpa [List.takeWhile_cons, hc] using this

theorem tw_take {p : UInt8 → Bool} : ∀ (l : List UInt8), l.take (l.takeWhile p).length = l.takeWhile p
  | [] => rfl
  | c :: r => by
    cases hc : p c
    · simp [hc]
    · simp [hc, tw_take r]

theorem tw_le {p : UInt8 → Bool} (l : List UInt8) : (l.takeWhile p).length ≤ l.length := by
  rw [← tw_take (p := p) l]
  simp
  omega

end Go.Proofs.Mk

/-
  The contracts of the small functions of package mark and of the document's answer: bytes, names' bytes.
-/
namespace Go.Proofs
open Go.RowKit
open Go.Proofs.Mk

theorem Mk.ret_bool {a b : Bool} (h : a = b) : Ending.returned (.bool a) = .returned (.bool b) := by rw [h]

set_option maxHeartbeats 400000 in
theorem Tryd.plain_any (r : Int) (w : World) :
    Calls Tryd.prog 78 #[.int .i32 r] w fun e w' => e = .returned (.bool (plainB r)) ∧ w' = w := by
  by_cases h1 : 32 ≤ r <;> by_cases h2 : r ≤ 126
  all_goals
    go_enter Tryd.func78, Tryd.ntmps78
    go_wp2
    go_ret
    exact ⟨Mk.ret_bool (by rw [Bool.eq_iff_iff]; simp [plainB]; omega), rfl⟩

set_option maxHeartbeats 400000 in
theorem Tryd.letter_any (r : Int) (w : World) :
    Calls Tryd.prog 86 #[.int .i32 r] w fun e w' => e = .returned (.bool (letterB r)) ∧ w' = w := by
  by_cases h1 : 97 ≤ r <;> by_cases h2 : r ≤ 122
  all_goals
    go_enter Tryd.func86, Tryd.ntmps86
    go_wp2
    go_ret
    exact ⟨Mk.ret_bool (by rw [Bool.eq_iff_iff]; simp [letterB]; omega), rfl⟩

set_option maxHeartbeats 400000 in
theorem Tryd.ofName_any (r : Int) (w : World) :
    Calls Tryd.prog 85 #[.int .i32 r] w fun e w' => e = .returned (.bool (ofNameB r)) ∧ w' = w := by
  by_cases h1 : 97 ≤ r <;> by_cases h2 : r ≤ 122 <;> by_cases h3 : 48 ≤ r <;> by_cases h4 : r ≤ 57
  all_goals first
    | (exfalso; omega)
    | (go_enter Tryd.func85, Tryd.ntmps85
       go_wp2
       go_ret
       exact ⟨Mk.ret_bool (by rw [Bool.eq_iff_iff]; simp [ofNameB]; omega), rfl⟩)

set_option maxHeartbeats 400000 in
theorem Tryd.refPlain_any (c : Int) (w : World) :
    Calls Tryd.prog 62 #[.int .u8 c] w fun e w' => e = .returned (.bool (plainB c)) ∧ w' = w := by
  by_cases h0 : c = 10
  · subst h0
    go_enter Tryd.func62, Tryd.ntmps62
    go_wp2
    go_ret
    exact ⟨rfl, rfl⟩
  · by_cases h1 : 31 < c <;> by_cases h2 : c < 127
    all_goals
      have h0' : (c == 10) = false := by simpa using h0
      go_enter Tryd.func62, Tryd.ntmps62
      go_wp2
      go_ret
      exact ⟨Mk.ret_bool (by rw [Bool.eq_iff_iff]; simp [plainB]; omega), rfl⟩

set_option maxHeartbeats 400000 in
theorem Tryd.inName_any (c : Int) (first : Bool) (w : World) :
    Calls Tryd.prog 72 #[.int .u8 c, .bool first] w fun e w' => e = .returned (.bool (Mk.inNameB c first)) ∧ w' = w := by
  by_cases h5 : c = 45
  · subst h5
    cases first
    all_goals
      go_enter Tryd.func72, Tryd.ntmps72
      go_wp2
      go_ret
      exact ⟨rfl, rfl⟩
  · have h5' : (c == 45) = false := by simpa using h5
    by_cases h1 : 97 ≤ c <;> by_cases h2 : c ≤ 122 <;> by_cases h3 : 48 ≤ c <;> by_cases h4 : c ≤ 57 <;> cases first
    all_goals first
      | (exfalso; omega)
      | (go_enter Tryd.func72, Tryd.ntmps72
         go_wp2
         go_ret
         exact ⟨Mk.ret_bool (by rw [Bool.eq_iff_iff]; simp [Mk.inNameB, letterB, ofNameB] <;> omega), rfl⟩)

set_option maxHeartbeats 400000 in
theorem Tryd.sign_any (c : Int) (w : World) :
    Calls Tryd.prog 63 #[.int .u8 c] w fun e w' => e = .returned (.string ⟨(Mk.signL c).toArray⟩) ∧ w' = w := by
  go_enter Tryd.func63, Tryd.ntmps63
  go_wp2
  all_goals go_ret
  all_goals simp_all [Mk.signL]

end Go.Proofs

/-
  Worlds in which a reader lies in block b, and what a call keeps of them.
-/
namespace Go.Proofs
open Go.RowKit

/-- The reader in block b: its text, and the place of the next byte. -/
def Mk.Rd (b : Nat) (s : ByteArray) (k : Nat) (w : World) : Prop := w.heap[b]? = some (.cells #[.string s, .int .i64 k] 102 (0, 0))

theorem Mk.grown_refl (w : World) (r : Option Nat) : w.grownBy w r := ⟨rfl, rfl, rfl, Nat.le_refl _, fun _ _ _ => rfl⟩
theorem Mk.grown_trans {a b c : World} {r : Option Nat} (h : a.grownBy b r) (k : b.grownBy c r) : a.grownBy c r :=
  ⟨k.os.trans h.os, k.tape.trans h.tape, k.output.trans h.output, Nat.le_trans h.size k.size, fun i hi hr => (k.block i (Nat.lt_of_lt_of_le hi h.size) hr).trans (h.block i hi hr)⟩
theorem Mk.grown_of_below {w w' : World} (h : Below w.heap.size w w') (r : Option Nat) : w.grownBy w' r :=
  ⟨h.os, h.tape, h.output, h.size, fun k hk _ => h.block k hk⟩
theorem Mk.grown_drewN {a w : World} {r : Option Nat} (h : a.grownBy w r) (n : Nat) : a.grownBy (w.drewN n) r :=
  ⟨h.os, h.tape, h.output, h.size, h.block⟩
theorem Mk.grown_setCell {a w : World} {b : Nat} (h : a.grownBy w (some b)) (o : Nat) (x : Option Nat) (v : Value) : a.grownBy (w.setCell ⟨b, o, x⟩ v) (some b) :=
  ⟨h.os, h.tape, h.output, by simpa [World.setCell] using h.size, fun k hk hr => by
    rw [Below.heap_setCell _ _ _ _ (fun e => hr (by rw [e]))]
    exact h.block k hk hr⟩

theorem Mk.Rd.lt {b : Nat} {s : ByteArray} {k : Nat} {w : World} (h : Mk.Rd b s k w) : b < w.heap.size := (Array.getElem?_eq_some_iff.1 h).1
theorem Mk.Rd.c0 {b : Nat} {s : ByteArray} {k : Nat} {w : World} (h : Mk.Rd b s k w) : w.cell? ⟨b, 0, none⟩ = some (.string s) := by
  simp only [Mk.Rd] at h; simp [World.cell?, h]
theorem Mk.Rd.c1 {b : Nat} {s : ByteArray} {k : Nat} {w : World} (h : Mk.Rd b s k w) : w.cell? ⟨b, 1, none⟩ = some (.int .i64 k) := by
  simp only [Mk.Rd] at h; simp [World.cell?, h]
theorem Mk.Rd.f1 {b : Nat} {s : ByteArray} {k : Nat} {w : World} (h : Mk.Rd b s k w) : w.frozen? ⟨b, 1, none⟩ = false := by
  simp only [Mk.Rd] at h; simp [World.frozen?, h]
theorem Mk.Rd.kept {b : Nat} {s : ByteArray} {k : Nat} {w w' : World} (h : Mk.Rd b s k w) (hb : Below w.heap.size w w') : Mk.Rd b s k w' := by
  unfold Mk.Rd
  rw [hb.block b h.lt]
  exact h
theorem Mk.Rd.put {b : Nat} {s : ByteArray} {k : Nat} {w : World} (h : Mk.Rd b s k w) (k' : Nat) : Mk.Rd b s k' (w.setCell ⟨b, 1, none⟩ (.int .i64 k')) := by
  unfold Mk.Rd at *
  simp [World.setCell, Array.getElem?_modify, h]

theorem Mk.builderAt_kept {T e : TypeId} {B b : Nat} {p : Value} {bs : List Value} {w w' : World} (h : Lib.BuilderAtF T e B b p bs w) (hk : ∀ k, B ≤ k → k < w.heap.size → w'.heap[k]? = w.heap[k]?) : Lib.BuilderAtF T e B b p bs w' := by
  obtain ⟨hB, v, hb, hown, hne⟩ := h
  refine ⟨hB, v, by rw [hk b hB (Array.getElem?_eq_some_iff.1 hb).1]; exact hb, ⟨hown.1, ?_⟩, hne⟩
  rcases hown.2 with hn | ⟨g, cap, cur, fz, hv, hbg, hg, rest⟩
  · exact .inl hn
  · exact .inr ⟨g, cap, cur, fz, hv, hbg, by rw [hk g hbg (Array.getElem?_eq_some_iff.1 hg).1]; exact hg, rest⟩
theorem Mk.builder_kept {T e : TypeId} {B b : Nat} {bs : List Value} {w w' : World} (h : Lib.IsBuilderF T e B b bs w) (hk : ∀ k, B ≤ k → k < w.heap.size → w'.heap[k]? = w.heap[k]?) : Lib.IsBuilderF T e B b bs w' :=
  h.elim (fun x => .inl (Mk.builderAt_kept x hk)) (fun x => .inr (Mk.builderAt_kept x hk))
theorem Mk.builder_below {T e : TypeId} {B b : Nat} {bs : List Value} {w w' : World} (h : Lib.IsBuilderF T e B b bs w) (hb : Below w.heap.size w w') : Lib.IsBuilderF T e B b bs w' :=
  Mk.builder_kept h fun k _ hk => hb.block k hk
theorem Mk.builder_setCell {T e : TypeId} {B b : Nat} {bs : List Value} {w : World} (h : Lib.IsBuilderF T e B b bs w) (a : Addr) (ha : a.block < B) (v : Value) : Lib.IsBuilderF T e B b bs (w.setCell a v) :=
  Mk.builder_kept h fun k hk _ => Below.heap_setCell _ _ _ _ (by omega)
/-- A step that keeps all below B keeps a reader that lies there. -/
theorem Mk.Rd.keptB {b B : Nat} {s : ByteArray} {k : Nat} {w w' : World} (h : Mk.Rd b s k w) (hb : Below B w w') (hB : b < B) : Mk.Rd b s k w' := by
  unfold Mk.Rd
  rw [hb.block b hB]
  exact h
theorem Mk.grown_belowB {a w w' : World} {r : Option Nat} (h : a.grownBy w r) (hb : Below a.heap.size w w') : a.grownBy w' r :=
  ⟨hb.os.trans h.os, hb.tape.trans h.tape, hb.output.trans h.output, Nat.le_trans h.size hb.size, fun k hk hr => (hb.block k hk).trans (h.block k hk hr)⟩
theorem Mk.below_drewN {B : Nat} {a w : World} (h : Below B a w) (n : Nat) : Below B a (w.drewN n) := ⟨h.os, h.tape, h.output, h.size, h.block⟩

/-- Behind a step that writes to one row of the call's own. -/
theorem Mk.grown_own {a w w' : World} {b : Nat} {row : Option Nat} (h : a.grownBy w (some b)) (hg : w.grownBy w' row) (hr : ∀ k, row = some k → a.heap.size ≤ k) : a.grownBy w' (some b) :=
  ⟨hg.os.trans h.os, hg.tape.trans h.tape, hg.output.trans h.output, Nat.le_trans h.size hg.size, fun k hk hb =>
    (hg.block k (Nat.lt_of_lt_of_le hk h.size) (fun e => by have := hr k e.symm; omega)).trans (h.block k hk hb)⟩
theorem Mk.grown_alloc {a w : World} {r : Option Nat} (h : a.grownBy w r) (o : Obj) : a.grownBy (w.alloc o) r :=
  Mk.grown_trans h (World.grownBy_alloc w o r)
theorem Mk.Rd.grown {b : Nat} {s : ByteArray} {k : Nat} {w w' : World} {row : Option Nat} (h : Mk.Rd b s k w) (hg : w.grownBy w' row) (hr : some b ≠ row) : Mk.Rd b s k w' := by
  unfold Mk.Rd
  rw [hg.block b h.lt hr]
  exact h

end Go.Proofs

/-
  The contract of the reader's skip.
-/
namespace Go.Proofs
open Go.RowKit
open Go.Proofs.Mk

theorem Mk.take_rest (s : ByteArray) (k : Nat) : List.take (s.size - k) (List.drop k s.data.toList) = s.data.toList.drop k :=
  List.take_of_length_le (by rw [List.length_drop]; exact Nat.le_refl _)

set_option maxHeartbeats 1000000 in
theorem Tryd.skip_yes (b : Nat) (s word : ByteArray) (k : Nat) (w : World) (h : Rd b s k w) (hk : k ≤ s.size) (hs : s.size ≤ 20000) (hw : word.size ≤ 20000)
    (hp : Lib.hasPrefix (s.data.toList.drop k) word.data.toList = true) :
    Calls Tryd.prog 64 #[.pointer (some ⟨b, 0, none⟩), .string word] w fun e w' => e = .returned (.bool true) ∧ w.grownBy w' (some b) ∧ Rd b s (k + word.size) w' := by
  have hlt := h.lt
  have hc0 := h.c0
  have hc1 := h.c1
  have hf1 := h.f1
  have HH : Hid (Rd b s k w) := h
  rw [← Mk.take_rest] at hp
  clear h
  go_enter Tryd.func64, Tryd.ntmps64
  go_wp2
  go_quiet ((go_at_call 80; exact Calls.quiet_of_same (Tryd.strings_HasPrefix _ _ _)))
  go_wp2
  go_ret
  refine ⟨rfl, Mk.grown_setCell (Mk.grown_drewN (Mk.grown_refl _ _) _) _ _ _, ?_⟩
  have := Mk.Rd.put (w := w.drewN nq) HH.out (k + word.size)
  simpa using this

set_option maxHeartbeats 1000000 in
theorem Tryd.skip_no (b : Nat) (s word : ByteArray) (k : Nat) (w : World) (h : Rd b s k w) (hk : k ≤ s.size) (_hs : s.size ≤ 20000) (_hw : word.size ≤ 20000)
    (hp : Lib.hasPrefix (s.data.toList.drop k) word.data.toList = false) :
    Calls Tryd.prog 64 #[.pointer (some ⟨b, 0, none⟩), .string word] w fun e w' => e = .returned (.bool false) ∧ w.grownBy w' (some b) ∧ Rd b s k w' := by
  have hlt := h.lt
  have hc0 := h.c0
  have hc1 := h.c1
  have hf1 := h.f1
  have HH : Hid (Rd b s k w) := h
  rw [← Mk.take_rest] at hp
  clear h
  go_enter Tryd.func64, Tryd.ntmps64
  go_wp2
  go_quiet ((go_at_call 80; exact Calls.quiet_of_same (Tryd.strings_HasPrefix _ _ _)))
  go_wp2
  go_ret
  exact ⟨rfl, Mk.grown_drewN (Mk.grown_refl _ _) _, HH.out⟩

/-- Both. -/
theorem Tryd.skip_any (b : Nat) (s word : ByteArray) (k : Nat) (w : World) (h : Rd b s k w) (hk : k ≤ s.size) (hs : s.size ≤ 20000) (hw : word.size ≤ 20000) (p : Bool)
    (hp : Lib.hasPrefix (s.data.toList.drop k) word.data.toList = p) :
    Calls Tryd.prog 64 #[.pointer (some ⟨b, 0, none⟩), .string word] w fun e w' => e = .returned (.bool p) ∧ w.grownBy w' (some b) ∧ Rd b s (if p then k + word.size else k) w' := by
  cases p
  · exact Tryd.skip_no b s word k w h hk hs hw hp
  · exact Tryd.skip_yes b s word k w h hk hs hw hp

end Go.Proofs

/-
  The contracts of mark.Name and of the document's Name: both tell of every text whether it is a name.
-/
namespace Go.Proofs
open Go.RowKit
open Go.Proofs.Mk

set_option maxHeartbeats 400000 in
theorem Tryd.refName_any (s : ByteArray) (w : World) (hs : s.size ≤ maxLen) :
    Calls Tryd.prog 60 #[.string s] w fun e w' => e = .returned (.bool (nameL s.data.toList)) ∧ w' = w := by
  unfold maxLen at hs
  have hlen : s.data.toList.length = s.size := rfl
  by_cases h1 : s.size < 1
  · have hn := nameL_short (l := s.data.toList) (by omega)
    have HN : Hid (nameL s.data.toList = false) := hn
    clear hn hlen
    have h1' : decide ((s.size : Int) < 1) = true := by simp; omega
    go_enter Tryd.func60, Tryd.ntmps60
    go_wp2
    go_ret
    exact ⟨by rw [HN.out]; rfl, rfl⟩
  · by_cases h2 : 24 < s.size
    · have hn := nameL_long (l := s.data.toList) (by omega)
      have HN : Hid (nameL s.data.toList = false) := hn
      clear hn hlen
      go_enter Tryd.func60, Tryd.ntmps60
      go_wp2
      go_ret
      exact ⟨by rw [HN.out]; rfl, rfl⟩
    · have HL : Hid (s.data.toList.length = s.size) := hlen
      clear hlen
      go_enter Tryd.func60, Tryd.ntmps60
      go_wp2
      go_loop [3] (fun i => ∃ k : Nat, k ≤ s.size ∧ i = .int .i64 k ∧ ∀ j (h : j < s.size), j < k → inNameB s[j].toNat (j == 0) = true) (fun i => s.size - (intOf i).toNat)
      case atStart => exact ⟨0, Nat.zero_le _, rfl, fun j h hj => by omega⟩
      case round =>
        obtain ⟨k, hk, rfl, hall⟩ := hrel
        have HA : Hid (∀ j (h : j < s.size), j < k → inNameB s[j].toNat (j == 0) = true) := hall
        clear hall
        by_cases hlt : k < s.size
        · cases hb : inNameB s[k].toNat (k == 0)
          · have HN : Hid (nameL s.data.toList = false) := nameL_false (j := k) (by have := HL.out; omega) hb
            have hk0 : ((k : Int) == 0) = (k == 0) := by cases k <;> simp <;> omega
            go_wp2_with (go_at_call 72; refine (Tryd.inName_any _ _ _).mono ?_; rintro e w' ⟨rfl, rfl⟩)
            go_ret
            exact ⟨by rw [HN.out]; rfl, rfl⟩
          · have hk0 : ((k : Int) == 0) = (k == 0) := by cases k <;> simp <;> omega
            have HB : Hid (inNameB s[k].toNat (k == 0) = true) := hb
            go_wp2_with (go_at_call 72; refine (Tryd.inName_any _ _ _).mono ?_; rintro e w' ⟨rfl, rfl⟩)
            go_round
            case rel =>
              refine ⟨k + 1, by omega, by go_num, fun j h hj => ?_⟩
              by_cases e : j = k
              · subst e; exact HB.out
              · exact HA.out j h (by omega)
            case measure => simp [intOf]; omega
        · have HN : Hid (nameL s.data.toList = true) := (nameL_iff _).2 ⟨by have := HL.out; omega, fun j hj => HA.out j hj (by have := HL.out; omega)⟩
          go_wp2
          go_ret
          exact ⟨by rw [HN.out]; rfl, rfl⟩

/-- A byte from 128 on is no rune of a name. -/
theorem Mk.high_no (s : ByteArray) (pos : Nat) (h : pos < s.size) (ha : ¬ (s[pos]'h).toNat < 128) : ofNameB (Utf8.decode s pos).1 = false := by
  have := (decode_high s pos h (by omega)).1
  simp only [ofNameB, decide_eq_false_iff_not]
  omega
theorem Mk.high_no' (c : UInt8) (ha : ¬ c.toNat < 128) (f : Bool) : inNameB c.toNat f = false := by
  have h1 : letterB c.toNat = false := by simp only [letterB, decide_eq_false_iff_not]; omega
  have h2 : ofNameB c.toNat = false := by simp only [ofNameB, decide_eq_false_iff_not]; omega
  cases f <;> simp [inNameB, h1, h2]

set_option maxHeartbeats 1000000 in
theorem Tryd.name_any (s : ByteArray) (w : World) (hs : s.size ≤ maxLen) :
    Calls Tryd.prog 74 #[.string s] w fun e w' => e = .returned (.bool (nameL s.data.toList)) ∧ Below w.heap.size w w' := by
  unfold maxLen at hs
  have hlen : s.data.toList.length = s.size := rfl
  by_cases h1 : s.size = 0
  · have HN : Hid (nameL s.data.toList = false) := nameL_short (l := s.data.toList) (by omega)
    clear hlen
    have h1' : ((s.size : Int) == 0) = true := beq_iff_eq.2 (by omega)
    go_enter Tryd.func74, Tryd.ntmps74
    go_wp2
    go_ret
    exact ⟨by rw [HN.out]; rfl, Below.refl _ _⟩
  · have h1' : ((s.size : Int) == 0) = false := beq_eq_false_iff_ne.2 (by omega)
    by_cases h2 : 24 < s.size
    · have HN : Hid (nameL s.data.toList = false) := nameL_long (l := s.data.toList) (by omega)
      clear hlen
      go_enter Tryd.func74, Tryd.ntmps74
      go_wp2
      go_ret
      exact ⟨by rw [HN.out]; rfl, Below.refl _ _⟩
    · have HL : Hid (s.data.toList.length = s.size) := hlen
      clear hlen
      go_enter Tryd.func74, Tryd.ntmps74
      go_wp2
      go_loopw [3, 4] (fun i r wr => ∃ pos : Nat, wr.heap[w.heap.size]? = some (.stringIter s pos) ∧ Below w.heap.size w wr ∧ ∀ j (h : j < s.size), j < pos → inNameB s[j].toNat (j == 0) = true) (fun _ _ wr => s.size - wr.iterPos w.heap.size)
      case atStart =>
        refine ⟨0, ?_, (Below.refl _ w).alloc (Nat.le_refl _) _, fun j h hj => by omega⟩
        have := World.iter_heap w s 0
        simpa using this
      case round =>
        obtain ⟨pos, hit, hbw, hall⟩ := hrel
        have HA : Hid (∀ j (h : j < s.size), j < pos → inNameB s[j].toNat (j == 0) = true) := hall
        clear hall
        by_cases hlt : pos < s.size
        · by_cases ha : (s[pos]'hlt).toNat < 128
          · have hnx : ∀ ty, (Instr.next (.pointer (some ⟨w.heap.size, 0, none⟩)) true ty).run Tryd.prog wr = _ := fun ty => Lib.run_next_ascii_at wr w.heap.size s pos ty hit hlt ha
            have hit2 := Lib.iterAt_heap wr w.heap.size s pos (pos + 1) hit
            have hbw2 := Lib.below_iterAt hbw (k := w.heap.size) (by omega) s (pos + 1)
            have HB : Hid (inNameB s[pos].toNat (pos == 0) = ((!(pos == 0) || letterB s[pos].toNat) && ofNameB s[pos].toNat)) := by
              show _ = _
              unfold inNameB
              have := @letter_ofName s[pos].toNat
              cases h1 : letterB s[pos].toNat <;> cases h2 : ofNameB s[pos].toNat <;> cases h3 : (pos == 0) <;> simp_all
            have hk0 : ((pos : Int) == 0) = (pos == 0) := by cases pos <;> simp <;> omega
            cases hof : ofNameB s[pos].toNat <;> cases hlt' : letterB s[pos].toNat <;> cases h0 : (pos == 0)
            all_goals
              go_wp2_with (first | (go_at_call 85; refine (Tryd.ofName_any _ _).mono ?_; rintro e w' ⟨rfl, rfl⟩) | (go_at_call 86; refine (Tryd.letter_any _ _).mono ?_; rintro e w' ⟨rfl, rfl⟩))
            all_goals first
              | (go_ret
                 have HN : Hid (nameL s.data.toList = false) := nameL_false (j := pos) (by have := HL.out; omega) (by rw [show s.data.toList[pos] = s[pos] from rfl, HB.out]; simp [hof, hlt', h0])
                 exact ⟨by rw [HN.out]; rfl, hbw2⟩)
              | (go_roundw
                 case rel =>
                   refine ⟨pos + 1, hit2, hbw2, fun j h hj => ?_⟩
                   by_cases e : j = pos
                   · subst e; rw [HB.out]; simp [hof, hlt', h0]
                   · exact HA.out j h (by omega)
                 case measure =>
                   simp only [World.iterPos, hit2, hit]
                   omega)
          · have hnx : ∀ ty, (Instr.next (.pointer (some ⟨w.heap.size, 0, none⟩)) true ty).run Tryd.prog wr = _ := fun ty => Lib.run_next_any_at wr w.heap.size s pos ty hit hlt
            have hbw2 := Lib.below_iterAt hbw (k := w.heap.size) (by omega) s (pos + (Utf8.decode s pos).2)
            have hof := Mk.high_no s pos hlt ha
            have HN : Hid (nameL s.data.toList = false) := nameL_false (j := pos) (by have := HL.out; omega) (Mk.high_no' _ ha _)
            go_wp2_with (first | (go_at_call 85; refine (Tryd.ofName_any _ _).mono ?_; rintro e w' ⟨rfl, rfl⟩) | (go_at_call 86; refine (Tryd.letter_any _ _).mono ?_; rintro e w' ⟨rfl, rfl⟩))
            go_ret
            exact ⟨by rw [HN.out]; rfl, hbw2⟩
        · have hnx : ∀ ty, (Instr.next (.pointer (some ⟨w.heap.size, 0, none⟩)) true ty).run Tryd.prog wr = _ := fun ty => Lib.run_next_end_at wr w.heap.size s pos ty hit hlt
          have HN : Hid (nameL s.data.toList = true) := (nameL_iff _).2 ⟨by have := HL.out; omega, fun j hj => HA.out j hj (by have := HL.out; omega)⟩
          go_wp2
          go_ret
          exact ⟨by rw [HN.out]; rfl, hbw⟩

end Go.Proofs
