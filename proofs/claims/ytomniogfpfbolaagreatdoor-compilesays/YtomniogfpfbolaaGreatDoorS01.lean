import Derived.Test.YtomniogfpfbolaaGreatDoorProg
import Derived.Below
namespace Go.Proofs.YtomniogfpfbolaaGreatDoor
open Go.RowKit Go
set_option maxRecDepth 100000
set_option maxHeartbeats 8000000
set_option linter.all false
abbrev vi (n:Int):Value:=.int .i64 n
abbrev Ad (b o:Nat):Addr:=⟨b,o,none⟩
abbrev Po (b o:Nat):Value:=.pointer (some ⟨b,o,none⟩)
abbrev Ce (w:World) (b o:Nat) (v:Value):Prop:=w.cell? ⟨b,o,none⟩=some v
abbrev Hp (w:World) (b:Nat) (x:Obj):Prop:=w.heap[b]?=some x
theorem bz0 {n:Nat} {w:World}:Below n w w:=Below.refl n w
abbrev Bw (w v:World):Prop:=Below w.heap.size w v
abbrev Cl (f:Nat) (a:Array Value) (w:World) (Q:Ending->World->Prop):Prop:=Calls Tryz.prog f a w Q
end Go.Proofs.YtomniogfpfbolaaGreatDoor
