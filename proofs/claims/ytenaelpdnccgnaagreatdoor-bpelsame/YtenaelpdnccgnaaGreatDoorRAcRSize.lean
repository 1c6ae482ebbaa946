import Derived.Test.YtenaelpdnccgnaaGreatDoorRRqRounds
set_option maxRecDepth 100000
set_option maxHeartbeats 32000000
namespace Go.Proofs
open Go.RowKit Go.Shelf
theorem Ak.rinfo:(Tryz.prog.info? 44).map (·.size)=some 12:=by kernel_rfl
structure Ak.Kd (w wr:World)(e d:Nat)(a:Option Addr)(j g off:Nat)(U:Ac.Vs)(xs:Array Value)(w2:World)(x:Ac):Prop where
 at_:a=some ⟨g,off,none⟩
 row:Ac.row x U=xs
 load:wr.rangeAt g (off+j*12) xs.toList
 one:xs.all (·.oneCell')=true
 is:(Tryz.prog.info? 44).map (·.size)=some xs.size
 il:(Tryz.prog.info? 44).map (·.size)=some xs.toList.length
 zero:(wr.alloc (.cells #[.int .i64 0,.int .i64 0,.int .i64 0,.int .i64 0,.int .i64 0,.int .i64 0,.slice none 0 0,.slice none 0 0,.slice none 0 0,.slice none 0 0,.slice none 0 0,.slice none 0 0] 44)).heap[wr.heap.size]? =some (.cells #[.int .i64 0,.int .i64 0,.int .i64 0,.int .i64 0,.int .i64 0,.int .i64 0,.slice none 0 0,.slice none 0 0,.slice none 0 0,.slice none 0 0,.slice none 0 0,.slice none 0 0] 44 (0,0))
 ez:(#[.int .i64 0,.int .i64 0,.int .i64 0,.int .i64 0,.int .i64 0,.int .i64 0,.slice none 0 0,.slice none 0 0,.slice none 0 0,.slice none 0 0,.slice none 0 0,.slice none 0 0]:Array Value).size=xs.size
 eq:(wr.alloc (.cells #[.int .i64 0,.int .i64 0,.int .i64 0,.int .i64 0,.int .i64 0,.int .i64 0,.slice none 0 0,.slice none 0 0,.slice none 0 0,.slice none 0 0,.slice none 0 0,.slice none 0 0] 44)).setRow wr.heap.size xs=w2
 box:w2.heap[wr.heap.size]? =some (.cells xs 44 (0,0))
 bel:Below wr.heap.size wr w2
 all:Below w.heap.size w w2
 lies:Ac.Lies w2 w2.heap.size e d U x
def Rk.Bits (w:World)(g:Nat)(bs:List Bool):Prop:=w.heap[g]? =some (.cells (bs.map Value.bool).toArray 4 (0,0))
def Rk.row (n:Nat):Array Value:=((List.replicate n false).map Value.bool).toArray
end Go.Proofs
