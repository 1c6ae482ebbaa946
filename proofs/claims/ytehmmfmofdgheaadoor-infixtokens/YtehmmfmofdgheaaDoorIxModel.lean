/-
  infix: tokens, terms out of tokens, and terms' texts: plain mathematics.
-/
import Derived.Test.YtehmmfmofdgheaaDoorTmBack2
namespace Go.Proofs
open Go.RowKit

namespace Ix
/-- A byte that is joined to others like it. -/
def runB (c : UInt8) : Bool := decide (48 ≤ c.toNat ∧ c.toNat ≤ 57) || decide (97 ≤ c.toNat ∧ c.toNat ≤ 122) || decide (65 ≤ c.toNat ∧ c.toNat ≤ 90) || decide (c.toNat = 36)
def runL (l : List UInt8) : List UInt8 := l.takeWhile runB
def isWord (l : List UInt8) : Bool := l == [97, 110, 100] || l == [111, 114] || l == [110, 111, 116]
/-- The kind of joined bytes; 0: they are no token. -/
def kindR (l : List UInt8) : Int := if isWord l = true then 3 else match Tk.parseR l with | .ok T => T.op | .error _ => 0
def one : List UInt8 := [43, 45, 42, 47, 37, 61, 60, 62, 40, 41]
/-- The sign with which bytes begin. -/
def signL : List UInt8 → List UInt8
  | [] => []
  | [c] => if one.contains c then [c] else []
  | c :: d :: _ => if d == 61 && (c == 33 || c == 60 || c == 62) then [c, d] else if one.contains c then [c] else []

/-- A token, with its place. -/
structure Tok where
  kind : Int
  at_ : Nat
  text : List UInt8
abbrev K := Int × List UInt8
def kt (x : Tok) : K := (x.kind, x.text)
/-- The token with which bytes begin (no space). -/
def firstR (l : List UInt8) : K := if runL l = [] then (if signL l = [] then (0, []) else (4, signL l)) else (kindR (runL l), runL l)
def toksF : Nat → Nat → List UInt8 → Except Nat (List Tok)
  | 0, _, _ => .ok []
  | _ + 1, _, [] => .ok []
  | n + 1, a, c :: r => if c = 32 then toksF n (a + 1) r else
      if (firstR (c :: r)).1 = 0 then .error a else
        match toksF n (a + (firstR (c :: r)).2.length) ((c :: r).drop (firstR (c :: r)).2.length) with
        | .error b => .error b
        | .ok l => .ok (⟨(firstR (c :: r)).1, a, (firstR (c :: r)).2⟩ :: l)
/-- A text's tokens, or the place of what is none. -/
def toksR (s : List UInt8) : Except Nat (List Tok) := toksF (s.length + 1) 0 s

/-- An operator. -/
structure Op where
  row : Nat
  text : List UInt8
  op : Int
  sw : Bool
  de : Bool
def ops : List Op := [⟨7, [45], 3, false, false⟩, ⟨6, [42], 7, false, false⟩, ⟨6, [47], 8, false, false⟩, ⟨6, [37], 9, false, false⟩, ⟨5, [43], 5, false, false⟩, ⟨5, [45], 6, false, false⟩, ⟨4, [61], 10, false, false⟩,
  ⟨4, [33, 61], 10, false, true⟩, ⟨4, [60], 11, false, false⟩, ⟨4, [60, 61], 12, false, false⟩, ⟨4, [62], 11, true, false⟩, ⟨4, [62, 61], 12, true, false⟩, ⟨3, [110, 111, 116], 4, false, false⟩, ⟨2, [97, 110, 100], 13, false, false⟩, ⟨1, [111, 114], 14, false, false⟩]
def opN (j : Nat) : Op := ops.getD j ⟨0, [], 0, false, false⟩
def findO (r : Nat) (t : List UInt8) : Option Op := ops.find? fun o => o.row == r && o.text == t
def opHead (r : Nat) : List K → Option (Op × List K)
  | [] => none
  | k :: l => (findO r k.2).map fun o => (o, l)
def make (o : Op) (T U : Tm) : Tm := if o.de then .mk 4 0 [.mk o.op 0 (if o.sw then [U, T] else [T, U])] else .mk o.op 0 (if o.sw then [U, T] else [T, U])
def make1 (o : Op) (T : Tm) : Tm := .mk o.op 0 [T]

abbrev Res := Except (List K) (Tm × List K)
def single (f : List K → Res) : List K → Res
  | [] => .error []
  | k :: l => if k.1 = 1 ∨ k.1 = 2 then (match Tk.parseR k.2 with | .ok T => .ok (T, l) | .error _ => .error l)
    else if k.2 = [40] then (match f l with
      | .error b => .error b
      | .ok (T, l2) => match l2 with
        | [] => .error []
        | k2 :: l3 => if k2.2 = [41] then .ok (T, l3) else .error (k2 :: l3))
    else .error (k :: l)
def loop (f : List K → Res) (r : Nat) : Nat → Tm → List K → Res
  | 0, T, l => .ok (T, l)
  | m + 1, T, l => match opHead r l with
    | none => .ok (T, l)
    | some (o, l') => match f l' with
      | .error b => .error b
      | .ok (U, l2) => if r = 4 then .ok (make o T U, l2) else loop f r m (make o T U) l2
/-- The term of a row with which tokens begin, and what is behind it; or what is left where it is wrong. -/
def row : Nat → Nat → List K → Res
  | 0, _, l => .error l
  | n + 1, r, l => if r = 8 then single (row n 1) l
    else if r = 3 ∨ r = 7 then (match opHead r l with
      | some (o, l') => (match row n r l' with
        | .error b => .error b
        | .ok (T, l2) => .ok (make1 o T, l2))
      | none => row n (r + 1) l)
    else match row n (r + 1) l with
      | .error b => .error b
      | .ok (T, l2) => loop (row n (r + 1)) r l2.length T l2
/-- The place of what is left. -/
def placeOf (e : Nat) (l : List Tok) (n : Nat) : Nat := match l.drop (l.length - n) with | [] => e | x :: _ => x.at_
def zero : Tm := .mk 0 0 []
/-- Parse's answer: the term, the place, the error. -/
def parse (s : List UInt8) : Tm × Nat × Int := if 20000 < s.length then (zero, 0, 2) else match toksR s with
  | .error a => (zero, a, 4)
  | .ok l => if 2000 < l.length then (zero, 0, 5) else match row (9 * l.length + 9) 1 (l.map kt) with
    | .error b => (zero, placeOf s.length l b.length, 4)
    | .ok (T, b) => if b.length = 0 then (if T.textR.2 = 0 then (T, 0, 0) else (zero, 0, T.textR.2)) else (zero, placeOf s.length l b.length, 4)

def k0 (T : Tm) : Tm := T.ks.getD 0 zero
def k1 (T : Tm) : Tm := T.ks.getD 1 zero
/-- The row in which a term stands. -/
def rowT (T : Tm) : Nat := if T.op = 14 then 1 else if T.op = 13 then 2 else if T.op = 4 then (if (k0 T).op = 10 then 4 else 3) else if 10 ≤ T.op ∧ T.op ≤ 12 then 4 else if T.op = 5 ∨ T.op = 6 then 5 else if 7 ≤ T.op ∧ T.op ≤ 9 then 6 else if T.op = 3 then 7 else 8
def signOf (o : Int) : List UInt8 := if o = 5 then [43] else if o = 6 then [45] else if o = 7 then [42] else if o = 8 then [47] else if o = 9 then [37] else if o = 10 then [61] else if o = 11 then [60] else if o = 12 then [60, 61] else if o = 13 then [97, 110, 100] else [111, 114]
def kidOf (f : Tm → List UInt8) (r : Nat) (T : Tm) : List UInt8 := if rowT T < r then 40 :: (f T ++ [41]) else f T
def leftR (r : Nat) : Nat := if r = 4 then 5 else r
/-- A term's text (of at most so many levels). -/
def txt : Nat → Tm → List UInt8
  | 0, _ => []
  | n + 1, T => if rowT T = 8 then T.txt
    else if rowT T = 7 then 45 :: kidOf (txt n) 7 (k0 T)
    else if rowT T = 3 then 110 :: 111 :: 116 :: 32 :: kidOf (txt n) 3 (k0 T)
    else if T.op = 4 then kidOf (txt n) 5 (k0 (k0 T)) ++ (32 :: 33 :: 61 :: 32 :: kidOf (txt n) 5 (k1 (k0 T)))
    else kidOf (txt n) (leftR (rowT T)) (k0 T) ++ (32 :: (signOf T.op ++ (32 :: kidOf (txt n) (rowT T + 1) (k1 T))))
/-- Text's answer. -/
def textI (T : Tm) : List UInt8 × Int := if T.textR.2 = 0 then (txt 24 T, 0) else ([], T.textR.2)
end Ix

end Go.Proofs
