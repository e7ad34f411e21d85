/- Short names. -/
import Derived.Below
namespace Go.Proofs.YtfabngnaejjcmaaGreatDoor
open Go.RowKit
theorem bn (w:World) (o:Obj):Below w.heap.size w (w.alloc o):=(Below.refl _ _).alloc (Nat.le_refl _) o
theorem bd (N:Nat) (w:World):Below N w w.drew:=(Below.refl N w).drew
universe u
theorem gs1 {α:Type u} {l:List α} {i:Nat} {a:α} (h:l[i]?=some a):∃h:i < l.length,l[i]=a:=List.getElem?_eq_some_iff.1 h
theorem bK {α:Type u} {l:List α} {i:Nat} (h:i < l.length):l[i]?=some l[i]:=List.getElem?_eq_getElem h
end Go.Proofs.YtfabngnaejjcmaaGreatDoor
