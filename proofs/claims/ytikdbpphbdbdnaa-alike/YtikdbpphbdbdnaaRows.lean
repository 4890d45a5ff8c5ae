/-
  No cell of these rows narrows 'for every input' (looked for: loops, veiled, ifaces, maps, wideKeys, modest, calm, conditions, laid).
  DERIVED. THE GIVEN ROWS OF THIS SEAT. 5 by the template 'for every input the law returns true; each argument reads behind the call as it read before'; 0 by the template 'total and deterministic' (their statements: YtikdbpphbdbdnaaTotals.lean).
  GIVEN WITH THE SEED: the statements are not yours to turn. If you find one false, say at which input.
  Laid BY PROGRAM, IN A SANDBOX (cutbox-rows.mjs): the forced cells as the released guide's own fill.sh prints them over the translation eb809b3df33a11ee… (all of the seat's roots in one cut). By AI agents, Wed Nov 11 2026. No macro, syntax, notation, axiom, sorry.
-/
import Derived.Test.YtikdbpphbdbdnaaChecked
import GoSem.Claim
import GoSem.ClaimJoined
import GoSem.ClaimMapViews
import Derived.JoinedTies
import Derived.KernelRfl
namespace Go.Proofs.Ytikdbpphbdbdnaa
/- THE CELL 'sum', in the pinned program and in every row, IS THE sha256 OF THE DUMP (.gsa) THAT YtikdbpphbdbdnaaProg.lean LOADS. Nothing in Lean hashes anything: it is a label: what it is worth is what the hold of that sum in a sandbox is worth. -/
noncomputable def Try.pinned : Pinned := { name := "ytikdbpphbdbdnaa", sum := "eb809b3df33a11ee44c480ecde235298978ebb62d52ee7e1a763a2dc4a5541f0", checked := Try.checked }
namespace Rows
def none {H : Type} : Left H := { results := [], args := [] }

/-- 'nightwatchkeep.Built': WHATEVER THE INPUT: true; the input reads as it did. -/
def builtSpec : ChangeSpec := { name := "built", fn := fun _ => fun
  | [d1, d2, d3, d4, d5, d6, d7] => { results := [.lit (.bool true)], args := [d1, d2, d3, d4, d5, d6, d7] }
  | _ => none }
def builtRow : OpenClaim := { program := "ytikdbpphbdbdnaa", sum := "eb809b3df33a11ee44c480ecde235298978ebb62d52ee7e1a763a2dc4a5541f0", func := "nightwatch/nightwatchkeep.Built", spec := "built", unfollowed := true, recurses := true, apart := false }
def BuiltSaid : Prop := builtRow.holds Try.pinned (OpenSpec.ofChange builtSpec)

/-- ITS FALSE NEIGHBOUR: 'it returns false'. Refute it at one input. -/
def builtWrong : ChangeSpec := { name := "built", fn := fun _ => fun
  | [d1, d2, d3, d4, d5, d6, d7] => { results := [.lit (.bool false)], args := [d1, d2, d3, d4, d5, d6, d7] }
  | _ => none }
def BuiltWrongFalsely : Prop := builtRow.holds Try.pinned (OpenSpec.ofChange builtWrong)

/-- 'nightwatchkeep.Watched': WHATEVER THE INPUT: true; the input reads as it did. -/
def watchedSpec : ChangeSpec := { name := "watched", fn := fun _ => fun
  | [d1, d2, d3, d4, d5] => { results := [.lit (.bool true)], args := [d1, d2, d3, d4, d5] }
  | _ => none }
def watchedRow : OpenClaim := { program := "ytikdbpphbdbdnaa", sum := "eb809b3df33a11ee44c480ecde235298978ebb62d52ee7e1a763a2dc4a5541f0", func := "nightwatch/nightwatchkeep.Watched", spec := "watched", unfollowed := true, recurses := true, apart := false }
def WatchedSaid : Prop := watchedRow.holds Try.pinned (OpenSpec.ofChange watchedSpec)

/-- ITS FALSE NEIGHBOUR: 'it returns false'. Refute it at one input. -/
def watchedWrong : ChangeSpec := { name := "watched", fn := fun _ => fun
  | [d1, d2, d3, d4, d5] => { results := [.lit (.bool false)], args := [d1, d2, d3, d4, d5] }
  | _ => none }
def WatchedWrongFalsely : Prop := watchedRow.holds Try.pinned (OpenSpec.ofChange watchedWrong)

/-- 'nightwatchkeep.Comes': WHATEVER THE INPUT: true; the input reads as it did. -/
def comesSpec : ChangeSpec := { name := "comes", fn := fun _ => fun
  | [d1, d2, d3, d4, d5, d6] => { results := [.lit (.bool true)], args := [d1, d2, d3, d4, d5, d6] }
  | _ => none }
def comesRow : OpenClaim := { program := "ytikdbpphbdbdnaa", sum := "eb809b3df33a11ee44c480ecde235298978ebb62d52ee7e1a763a2dc4a5541f0", func := "nightwatch/nightwatchkeep.Comes", spec := "comes", unfollowed := true, recurses := true, apart := false }
def ComesSaid : Prop := comesRow.holds Try.pinned (OpenSpec.ofChange comesSpec)

/-- ITS FALSE NEIGHBOUR: 'it returns false'. Refute it at one input. -/
def comesWrong : ChangeSpec := { name := "comes", fn := fun _ => fun
  | [d1, d2, d3, d4, d5, d6] => { results := [.lit (.bool false)], args := [d1, d2, d3, d4, d5, d6] }
  | _ => none }
def ComesWrongFalsely : Prop := comesRow.holds Try.pinned (OpenSpec.ofChange comesWrong)

/-- 'nightwatchkeep.Guarded': WHATEVER THE INPUT: true; the input reads as it did. -/
def guardedSpec : ChangeSpec := { name := "guarded", fn := fun _ => fun
  | [d1, d2, d3, d4, d5] => { results := [.lit (.bool true)], args := [d1, d2, d3, d4, d5] }
  | _ => none }
def guardedRow : OpenClaim := { program := "ytikdbpphbdbdnaa", sum := "eb809b3df33a11ee44c480ecde235298978ebb62d52ee7e1a763a2dc4a5541f0", func := "nightwatch/nightwatchkeep.Guarded", spec := "guarded", unfollowed := true, recurses := true, apart := false }
def GuardedSaid : Prop := guardedRow.holds Try.pinned (OpenSpec.ofChange guardedSpec)

/-- ITS FALSE NEIGHBOUR: 'it returns false'. Refute it at one input. -/
def guardedWrong : ChangeSpec := { name := "guarded", fn := fun _ => fun
  | [d1, d2, d3, d4, d5] => { results := [.lit (.bool false)], args := [d1, d2, d3, d4, d5] }
  | _ => none }
def GuardedWrongFalsely : Prop := guardedRow.holds Try.pinned (OpenSpec.ofChange guardedWrong)

/-- 'nightwatchkeep.Alike': WHATEVER THE INPUT: true; the input reads as it did. -/
def alikeSpec : ChangeSpec := { name := "alike", fn := fun _ => fun
  | [d1, d2, d3, d4] => { results := [.lit (.bool true)], args := [d1, d2, d3, d4] }
  | _ => none }
def alikeRow : OpenClaim := { program := "ytikdbpphbdbdnaa", sum := "eb809b3df33a11ee44c480ecde235298978ebb62d52ee7e1a763a2dc4a5541f0", func := "nightwatch/nightwatchkeep.Alike", spec := "alike", unfollowed := true, recurses := true, apart := false }
def AlikeSaid : Prop := alikeRow.holds Try.pinned (OpenSpec.ofChange alikeSpec)

/-- ITS FALSE NEIGHBOUR: 'it returns false'. Refute it at one input. -/
def alikeWrong : ChangeSpec := { name := "alike", fn := fun _ => fun
  | [d1, d2, d3, d4] => { results := [.lit (.bool false)], args := [d1, d2, d3, d4] }
  | _ => none }
def AlikeWrongFalsely : Prop := alikeRow.holds Try.pinned (OpenSpec.ofChange alikeWrong)

/- THE SECOND FORM. 'bulk': how many values and letters a reading holds, each counted each time it is reached (what is shared counts as often as it is met; a slice's spare places count too). A statement '..UptoSaid' is the law's where the arguments, and the package variables that the reading takes, are together of bulk at most 1048576: NARROWER than '..Said'. Prove '..Said' where nothing that the law and all that it calls make is longer than what came in: it says more and counts as full. Else prove '..UptoSaid'. A law counts once. -/
mutual
def uptoBulk {H : Type} : DataW H → Nat
  | .lit (.string bytes) => bytes.length + 1
  | .lit _ => 1
  | .nil => 1
  | .ptr d => uptoBulk d + 1
  | .slice elems spare => uptoBulkAll elems + uptoBulkAll spare + 1
  | .agg parts => uptoBulkAll parts + 1
  | .iface _ d => uptoBulk d + 1
  | .map entries => uptoBulkEntries entries + 1
  | .held _ => 1
def uptoBulkAll {H : Type} : List (DataW H) → Nat
  | [] => 0
  | d :: r => uptoBulk d + uptoBulkAll r
def uptoBulkEntries {H : Type} : List (Lit × DataW H) → Nat
  | [] => 0
  | x :: r => uptoBulkEntry x + uptoBulkEntries r
def uptoBulkEntry {H : Type} : Lit × DataW H → Nat
  | (.string bytes, d) => bytes.length + uptoBulk d + 1
  | (_, d) => uptoBulk d + 1
 end
def uptoSmall : (H : Type) → List (DataW H) → Bool := fun _ ds => decide (uptoBulkAll ds ≤ 1048576)
def OpenSpec.upto (s : _root_.Go.ChangeSpec) : _root_.Go.OpenSpec := { _root_.Go.OpenSpec.ofChange s with cond := some uptoSmall }

/-- 'nightwatchkeep.Built', WHERE WHAT IT READS IS OF BULK AT MOST 1048576: true; the input reads as it did. -/
def builtUptoRow : OpenClaim := { program := "ytikdbpphbdbdnaa", sum := "eb809b3df33a11ee44c480ecde235298978ebb62d52ee7e1a763a2dc4a5541f0", func := "nightwatch/nightwatchkeep.Built", spec := "built", unfollowed := true, recurses := true, apart := false, narrowed := true }
def BuiltUptoSaid : Prop := builtUptoRow.holds Try.pinned (OpenSpec.upto builtSpec)

/-- 'nightwatchkeep.Watched', WHERE WHAT IT READS IS OF BULK AT MOST 1048576: true; the input reads as it did. -/
def watchedUptoRow : OpenClaim := { program := "ytikdbpphbdbdnaa", sum := "eb809b3df33a11ee44c480ecde235298978ebb62d52ee7e1a763a2dc4a5541f0", func := "nightwatch/nightwatchkeep.Watched", spec := "watched", unfollowed := true, recurses := true, apart := false, narrowed := true }
def WatchedUptoSaid : Prop := watchedUptoRow.holds Try.pinned (OpenSpec.upto watchedSpec)

/-- 'nightwatchkeep.Comes', WHERE WHAT IT READS IS OF BULK AT MOST 1048576: true; the input reads as it did. -/
def comesUptoRow : OpenClaim := { program := "ytikdbpphbdbdnaa", sum := "eb809b3df33a11ee44c480ecde235298978ebb62d52ee7e1a763a2dc4a5541f0", func := "nightwatch/nightwatchkeep.Comes", spec := "comes", unfollowed := true, recurses := true, apart := false, narrowed := true }
def ComesUptoSaid : Prop := comesUptoRow.holds Try.pinned (OpenSpec.upto comesSpec)

/-- 'nightwatchkeep.Guarded', WHERE WHAT IT READS IS OF BULK AT MOST 1048576: true; the input reads as it did. -/
def guardedUptoRow : OpenClaim := { program := "ytikdbpphbdbdnaa", sum := "eb809b3df33a11ee44c480ecde235298978ebb62d52ee7e1a763a2dc4a5541f0", func := "nightwatch/nightwatchkeep.Guarded", spec := "guarded", unfollowed := true, recurses := true, apart := false, narrowed := true }
def GuardedUptoSaid : Prop := guardedUptoRow.holds Try.pinned (OpenSpec.upto guardedSpec)

/-- 'nightwatchkeep.Alike', WHERE WHAT IT READS IS OF BULK AT MOST 1048576: true; the input reads as it did. -/
def alikeUptoRow : OpenClaim := { program := "ytikdbpphbdbdnaa", sum := "eb809b3df33a11ee44c480ecde235298978ebb62d52ee7e1a763a2dc4a5541f0", func := "nightwatch/nightwatchkeep.Alike", spec := "alike", unfollowed := true, recurses := true, apart := false, narrowed := true }
def AlikeUptoSaid : Prop := alikeUptoRow.holds Try.pinned (OpenSpec.upto alikeSpec)

end Rows
end Go.Proofs.Ytikdbpphbdbdnaa
