/-
  No cell of these rows narrows 'for every input' (looked for: loops, veiled, ifaces, maps, wideKeys, modest, calm, conditions, laid).
  DERIVED. THE GIVEN ROWS OF THIS SEAT. 5 by the template 'for every input the law returns true; each argument reads behind the call as it read before'; 0 by the template 'total and deterministic' (their statements: YtjeoccjemkdbiaaTotals.lean).
  GIVEN WITH THE SEED: the statements are not yours to turn. If you find one false, say at which input.
  Laid BY PROGRAM, IN A SANDBOX (cutbox-rows.mjs): the forced cells as the released guide's own fill.sh prints them over the translation 964dd2b2dedfbf96… (all of the seat's roots in one cut). By AI agents, Wed Nov 11 2026. No macro, syntax, notation, axiom, sorry.
-/
import Derived.Test.YtjeoccjemkdbiaaChecked
import GoSem.Claim
import GoSem.ClaimJoined
import GoSem.ClaimMapViews
import Derived.JoinedTies
import Derived.KernelRfl
namespace Go.Proofs.Ytjeoccjemkdbiaa
/- THE CELL 'sum', in the pinned program and in every row, IS THE sha256 OF THE DUMP (.gsa) THAT YtjeoccjemkdbiaaProg.lean LOADS. Nothing in Lean hashes anything: it is a label: what it is worth is what the hold of that sum in a sandbox is worth. -/
noncomputable def Try.pinned : Pinned := { name := "ytjeoccjemkdbiaa", sum := "964dd2b2dedfbf962c526a4a605235a40b8c907b09973890ffba44d46d02a3e7", checked := Try.checked }
namespace Rows
def none {H : Type} : Left H := { results := [], args := [] }

/-- 'laws.FnExactKeepsCount': WHATEVER THE INPUT: true; the input reads as it did. -/
def fnExactKeepsCountSpec : ChangeSpec := { name := "fnExactKeepsCount", fn := fun _ => fun
  | [d1, d2, d3] => { results := [.lit (.bool true)], args := [d1, d2, d3] }
  | _ => none }
def fnExactKeepsCountRow : OpenClaim := { program := "ytjeoccjemkdbiaa", sum := "964dd2b2dedfbf962c526a4a605235a40b8c907b09973890ffba44d46d02a3e7", func := "loop.example/g01381/laws.FnExactKeepsCount", spec := "fnExactKeepsCount", unfollowed := true, recurses := true, apart := false }
def FnExactKeepsCountSaid : Prop := fnExactKeepsCountRow.holds Try.pinned (OpenSpec.ofChange fnExactKeepsCountSpec)

/-- ITS FALSE NEIGHBOUR: 'it returns false'. Refute it at one input. -/
def fnExactKeepsCountWrong : ChangeSpec := { name := "fnExactKeepsCount", fn := fun _ => fun
  | [d1, d2, d3] => { results := [.lit (.bool false)], args := [d1, d2, d3] }
  | _ => none }
def FnExactKeepsCountWrongFalsely : Prop := fnExactKeepsCountRow.holds Try.pinned (OpenSpec.ofChange fnExactKeepsCountWrong)

/-- 'laws.FnExactWordsBack': WHATEVER THE INPUT: true; the input reads as it did. -/
def fnExactWordsBackSpec : ChangeSpec := { name := "fnExactWordsBack", fn := fun _ => fun
  | [d1, d2] => { results := [.lit (.bool true)], args := [d1, d2] }
  | _ => none }
def fnExactWordsBackRow : OpenClaim := { program := "ytjeoccjemkdbiaa", sum := "964dd2b2dedfbf962c526a4a605235a40b8c907b09973890ffba44d46d02a3e7", func := "loop.example/g01381/laws.FnExactWordsBack", spec := "fnExactWordsBack", unfollowed := true, recurses := true, apart := false }
def FnExactWordsBackSaid : Prop := fnExactWordsBackRow.holds Try.pinned (OpenSpec.ofChange fnExactWordsBackSpec)

/-- ITS FALSE NEIGHBOUR: 'it returns false'. Refute it at one input. -/
def fnExactWordsBackWrong : ChangeSpec := { name := "fnExactWordsBack", fn := fun _ => fun
  | [d1, d2] => { results := [.lit (.bool false)], args := [d1, d2] }
  | _ => none }
def FnExactWordsBackWrongFalsely : Prop := fnExactWordsBackRow.holds Try.pinned (OpenSpec.ofChange fnExactWordsBackWrong)

/-- 'laws.FnExactCountBack': WHATEVER THE INPUT: true; the input reads as it did. -/
def fnExactCountBackSpec : ChangeSpec := { name := "fnExactCountBack", fn := fun _ => fun
  | [d1, d2] => { results := [.lit (.bool true)], args := [d1, d2] }
  | _ => none }
def fnExactCountBackRow : OpenClaim := { program := "ytjeoccjemkdbiaa", sum := "964dd2b2dedfbf962c526a4a605235a40b8c907b09973890ffba44d46d02a3e7", func := "loop.example/g01381/laws.FnExactCountBack", spec := "fnExactCountBack", unfollowed := true, recurses := true, apart := false }
def FnExactCountBackSaid : Prop := fnExactCountBackRow.holds Try.pinned (OpenSpec.ofChange fnExactCountBackSpec)

/-- ITS FALSE NEIGHBOUR: 'it returns false'. Refute it at one input. -/
def fnExactCountBackWrong : ChangeSpec := { name := "fnExactCountBack", fn := fun _ => fun
  | [d1, d2] => { results := [.lit (.bool false)], args := [d1, d2] }
  | _ => none }
def FnExactCountBackWrongFalsely : Prop := fnExactCountBackRow.holds Try.pinned (OpenSpec.ofChange fnExactCountBackWrong)

/-- 'laws.FnExactGardensOf': WHATEVER THE INPUT: true; the input reads as it did. -/
def fnExactGardensOfSpec : ChangeSpec := { name := "fnExactGardensOf", fn := fun _ => fun
  | [d1, d2] => { results := [.lit (.bool true)], args := [d1, d2] }
  | _ => none }
def fnExactGardensOfRow : OpenClaim := { program := "ytjeoccjemkdbiaa", sum := "964dd2b2dedfbf962c526a4a605235a40b8c907b09973890ffba44d46d02a3e7", func := "loop.example/g01381/laws.FnExactGardensOf", spec := "fnExactGardensOf", unfollowed := true, recurses := true, apart := false }
def FnExactGardensOfSaid : Prop := fnExactGardensOfRow.holds Try.pinned (OpenSpec.ofChange fnExactGardensOfSpec)

/-- ITS FALSE NEIGHBOUR: 'it returns false'. Refute it at one input. -/
def fnExactGardensOfWrong : ChangeSpec := { name := "fnExactGardensOf", fn := fun _ => fun
  | [d1, d2] => { results := [.lit (.bool false)], args := [d1, d2] }
  | _ => none }
def FnExactGardensOfWrongFalsely : Prop := fnExactGardensOfRow.holds Try.pinned (OpenSpec.ofChange fnExactGardensOfWrong)

/-- 'laws.FnExactImagesOf': WHATEVER THE INPUT: true; the input reads as it did. -/
def fnExactImagesOfSpec : ChangeSpec := { name := "fnExactImagesOf", fn := fun _ => fun
  | [d1, d2] => { results := [.lit (.bool true)], args := [d1, d2] }
  | _ => none }
def fnExactImagesOfRow : OpenClaim := { program := "ytjeoccjemkdbiaa", sum := "964dd2b2dedfbf962c526a4a605235a40b8c907b09973890ffba44d46d02a3e7", func := "loop.example/g01381/laws.FnExactImagesOf", spec := "fnExactImagesOf", unfollowed := true, recurses := true, apart := false }
def FnExactImagesOfSaid : Prop := fnExactImagesOfRow.holds Try.pinned (OpenSpec.ofChange fnExactImagesOfSpec)

/-- ITS FALSE NEIGHBOUR: 'it returns false'. Refute it at one input. -/
def fnExactImagesOfWrong : ChangeSpec := { name := "fnExactImagesOf", fn := fun _ => fun
  | [d1, d2] => { results := [.lit (.bool false)], args := [d1, d2] }
  | _ => none }
def FnExactImagesOfWrongFalsely : Prop := fnExactImagesOfRow.holds Try.pinned (OpenSpec.ofChange fnExactImagesOfWrong)

/- THE SECOND FORM. 'bulk': how many values and letters a reading holds, each counted each time it is reached (what is shared counts as often as it is met; a slice's spare places count too). A statement '..UptoSaid' is the law's where the arguments, and the package variables that the reading takes, are together of bulk at most 1048576: NARROWER than '..Said'. Prove '..Said' where nothing that the law and all that it calls make is longer than what came in: it says more and counts as full. Else prove '..UptoSaid'. A law counts once. -/
mutual
def uptoBulk {H : Type} : DataW H → Nat
  | .lit (.string bytes) => bytes.length + 1
  | .lit _ => 1
  | .nil => 1
  | .ptr d => uptoBulk d + 1
  | .slice elems spare => uptoBulkAll elems + uptoBulkAll spare + 1
  | .agg parts => uptoBulkAll parts + 1
  | .iface _ d => uptoBulk d + 1
  | .map entries => uptoBulkEntries entries + 1
  | .held _ => 1
def uptoBulkAll {H : Type} : List (DataW H) → Nat
  | [] => 0
  | d :: r => uptoBulk d + uptoBulkAll r
def uptoBulkEntries {H : Type} : List (Lit × DataW H) → Nat
  | [] => 0
  | x :: r => uptoBulkEntry x + uptoBulkEntries r
def uptoBulkEntry {H : Type} : Lit × DataW H → Nat
  | (.string bytes, d) => bytes.length + uptoBulk d + 1
  | (_, d) => uptoBulk d + 1
 end
def uptoSmall : (H : Type) → List (DataW H) → Bool := fun _ ds => decide (uptoBulkAll ds ≤ 1048576)
def OpenSpec.upto (s : _root_.Go.ChangeSpec) : _root_.Go.OpenSpec := { _root_.Go.OpenSpec.ofChange s with cond := some uptoSmall }

/-- 'laws.FnExactKeepsCount', WHERE WHAT IT READS IS OF BULK AT MOST 1048576: true; the input reads as it did. -/
def fnExactKeepsCountUptoRow : OpenClaim := { program := "ytjeoccjemkdbiaa", sum := "964dd2b2dedfbf962c526a4a605235a40b8c907b09973890ffba44d46d02a3e7", func := "loop.example/g01381/laws.FnExactKeepsCount", spec := "fnExactKeepsCount", unfollowed := true, recurses := true, apart := false, narrowed := true }
def FnExactKeepsCountUptoSaid : Prop := fnExactKeepsCountUptoRow.holds Try.pinned (OpenSpec.upto fnExactKeepsCountSpec)

/-- 'laws.FnExactWordsBack', WHERE WHAT IT READS IS OF BULK AT MOST 1048576: true; the input reads as it did. -/
def fnExactWordsBackUptoRow : OpenClaim := { program := "ytjeoccjemkdbiaa", sum := "964dd2b2dedfbf962c526a4a605235a40b8c907b09973890ffba44d46d02a3e7", func := "loop.example/g01381/laws.FnExactWordsBack", spec := "fnExactWordsBack", unfollowed := true, recurses := true, apart := false, narrowed := true }
def FnExactWordsBackUptoSaid : Prop := fnExactWordsBackUptoRow.holds Try.pinned (OpenSpec.upto fnExactWordsBackSpec)

/-- 'laws.FnExactCountBack', WHERE WHAT IT READS IS OF BULK AT MOST 1048576: true; the input reads as it did. -/
def fnExactCountBackUptoRow : OpenClaim := { program := "ytjeoccjemkdbiaa", sum := "964dd2b2dedfbf962c526a4a605235a40b8c907b09973890ffba44d46d02a3e7", func := "loop.example/g01381/laws.FnExactCountBack", spec := "fnExactCountBack", unfollowed := true, recurses := true, apart := false, narrowed := true }
def FnExactCountBackUptoSaid : Prop := fnExactCountBackUptoRow.holds Try.pinned (OpenSpec.upto fnExactCountBackSpec)

/-- 'laws.FnExactGardensOf', WHERE WHAT IT READS IS OF BULK AT MOST 1048576: true; the input reads as it did. -/
def fnExactGardensOfUptoRow : OpenClaim := { program := "ytjeoccjemkdbiaa", sum := "964dd2b2dedfbf962c526a4a605235a40b8c907b09973890ffba44d46d02a3e7", func := "loop.example/g01381/laws.FnExactGardensOf", spec := "fnExactGardensOf", unfollowed := true, recurses := true, apart := false, narrowed := true }
def FnExactGardensOfUptoSaid : Prop := fnExactGardensOfUptoRow.holds Try.pinned (OpenSpec.upto fnExactGardensOfSpec)

/-- 'laws.FnExactImagesOf', WHERE WHAT IT READS IS OF BULK AT MOST 1048576: true; the input reads as it did. -/
def fnExactImagesOfUptoRow : OpenClaim := { program := "ytjeoccjemkdbiaa", sum := "964dd2b2dedfbf962c526a4a605235a40b8c907b09973890ffba44d46d02a3e7", func := "loop.example/g01381/laws.FnExactImagesOf", spec := "fnExactImagesOf", unfollowed := true, recurses := true, apart := false, narrowed := true }
def FnExactImagesOfUptoSaid : Prop := fnExactImagesOfUptoRow.holds Try.pinned (OpenSpec.upto fnExactImagesOfSpec)

end Rows
end Go.Proofs.Ytjeoccjemkdbiaa
