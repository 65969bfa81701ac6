/-
  No cell of these rows narrows 'for every input' (looked for: loops, veiled, ifaces, maps, wideKeys, modest, calm, conditions, laid).
  DERIVED. THE GIVEN ROWS OF THIS SEAT. 14 by the template 'for every input the law returns true; each argument reads behind the call as it read before'; 0 by the template 'total and deterministic' (their statements: YtlpkheoljbdajaaTotals.lean).
  GIVEN WITH THE SEED: the statements are not yours to turn. If you find one false, say at which input.
  Laid BY PROGRAM, IN A SANDBOX (cutbox-rows.mjs): the forced cells as the released guide's own fill.sh prints them over the translation d7f3476db2c1028e… (all of the seat's roots in one cut). By AI agents, Wed Nov 11 2026. No macro, syntax, notation, axiom, sorry.
-/
import Derived.Test.YtlpkheoljbdajaaChecked
import GoSem.Claim
import GoSem.ClaimJoined
import GoSem.ClaimMapViews
import Derived.JoinedTies
import Derived.KernelRfl
namespace Go.Proofs.Ytlpkheoljbdajaa
/- THE CELL 'sum', in the pinned program and in every row, IS THE sha256 OF THE DUMP (.gsa) THAT YtlpkheoljbdajaaProg.lean LOADS. Nothing in Lean hashes anything: it is a label: what it is worth is what the hold of that sum in a sandbox is worth. -/
noncomputable def Try.pinned : Pinned := { name := "ytlpkheoljbdajaa", sum := "d7f3476db2c1028eb19f1133a73eb3ea83dbb679ee2a2ebfe400c1f4bc7af2e5", checked := Try.checked }
namespace Rows
def none {H : Type} : Left H := { results := [], args := [] }

/-- 'remontoirlaw03.StarTruths': WHATEVER THE INPUT: true; the input reads as it did. -/
def starTruthsSpec : ChangeSpec := { name := "starTruths", fn := fun _ => fun
  | [d1, d2, d3] => { results := [.lit (.bool true)], args := [d1, d2, d3] }
  | _ => none }
def starTruthsRow : OpenClaim := { program := "ytlpkheoljbdajaa", sum := "d7f3476db2c1028eb19f1133a73eb3ea83dbb679ee2a2ebfe400c1f4bc7af2e5", func := "remontoir/remontoirlaw03.StarTruths", spec := "starTruths", unfollowed := true, recurses := true, plainKeys := false, apart := false }
def StarTruthsSaid : Prop := starTruthsRow.holds Try.pinned (OpenSpec.ofChange starTruthsSpec)

/-- ITS FALSE NEIGHBOUR: 'it returns false'. Refute it at one input. -/
def starTruthsWrong : ChangeSpec := { name := "starTruths", fn := fun _ => fun
  | [d1, d2, d3] => { results := [.lit (.bool false)], args := [d1, d2, d3] }
  | _ => none }
def StarTruthsWrongFalsely : Prop := starTruthsRow.holds Try.pinned (OpenSpec.ofChange starTruthsWrong)

/-- 'remontoirlaw03.StarSpans': WHATEVER THE INPUT: true; the input reads as it did. -/
def starSpansSpec : ChangeSpec := { name := "starSpans", fn := fun _ => fun
  | [d1, d2] => { results := [.lit (.bool true)], args := [d1, d2] }
  | _ => none }
def starSpansRow : OpenClaim := { program := "ytlpkheoljbdajaa", sum := "d7f3476db2c1028eb19f1133a73eb3ea83dbb679ee2a2ebfe400c1f4bc7af2e5", func := "remontoir/remontoirlaw03.StarSpans", spec := "starSpans", unfollowed := true, recurses := true, plainKeys := false, apart := false }
def StarSpansSaid : Prop := starSpansRow.holds Try.pinned (OpenSpec.ofChange starSpansSpec)

/-- ITS FALSE NEIGHBOUR: 'it returns false'. Refute it at one input. -/
def starSpansWrong : ChangeSpec := { name := "starSpans", fn := fun _ => fun
  | [d1, d2] => { results := [.lit (.bool false)], args := [d1, d2] }
  | _ => none }
def StarSpansWrongFalsely : Prop := starSpansRow.holds Try.pinned (OpenSpec.ofChange starSpansWrong)

/-- 'remontoirlaw03.StarCases': WHATEVER THE INPUT: true; the input reads as it did. -/
def starCasesSpec : ChangeSpec := { name := "starCases", fn := fun _ => fun
  | [d1, d2, d3] => { results := [.lit (.bool true)], args := [d1, d2, d3] }
  | _ => none }
def starCasesRow : OpenClaim := { program := "ytlpkheoljbdajaa", sum := "d7f3476db2c1028eb19f1133a73eb3ea83dbb679ee2a2ebfe400c1f4bc7af2e5", func := "remontoir/remontoirlaw03.StarCases", spec := "starCases", unfollowed := true, recurses := true, plainKeys := false, apart := false }
def StarCasesSaid : Prop := starCasesRow.holds Try.pinned (OpenSpec.ofChange starCasesSpec)

/-- ITS FALSE NEIGHBOUR: 'it returns false'. Refute it at one input. -/
def starCasesWrong : ChangeSpec := { name := "starCases", fn := fun _ => fun
  | [d1, d2, d3] => { results := [.lit (.bool false)], args := [d1, d2, d3] }
  | _ => none }
def StarCasesWrongFalsely : Prop := starCasesRow.holds Try.pinned (OpenSpec.ofChange starCasesWrong)

/-- 'remontoirlaw03.StarWrongs': WHATEVER THE INPUT: true; the input reads as it did. -/
def starWrongsSpec : ChangeSpec := { name := "starWrongs", fn := fun _ => fun
  | [d] => { results := [.lit (.bool true)], args := [d] }
  | _ => none }
def starWrongsRow : OpenClaim := { program := "ytlpkheoljbdajaa", sum := "d7f3476db2c1028eb19f1133a73eb3ea83dbb679ee2a2ebfe400c1f4bc7af2e5", func := "remontoir/remontoirlaw03.StarWrongs", spec := "starWrongs", unfollowed := true, recurses := true, plainKeys := false, apart := false }
def StarWrongsSaid : Prop := starWrongsRow.holds Try.pinned (OpenSpec.ofChange starWrongsSpec)

/-- ITS FALSE NEIGHBOUR: 'it returns false'. Refute it at one input. -/
def starWrongsWrong : ChangeSpec := { name := "starWrongs", fn := fun _ => fun
  | [d] => { results := [.lit (.bool false)], args := [d] }
  | _ => none }
def StarWrongsWrongFalsely : Prop := starWrongsRow.holds Try.pinned (OpenSpec.ofChange starWrongsWrong)

/-- 'remontoirlaw03.StarTrue': WHATEVER THE INPUT: true; the input reads as it did. -/
def starTrueSpec : ChangeSpec := { name := "starTrue", fn := fun _ => fun
  | [d1, d2] => { results := [.lit (.bool true)], args := [d1, d2] }
  | _ => none }
def starTrueRow : OpenClaim := { program := "ytlpkheoljbdajaa", sum := "d7f3476db2c1028eb19f1133a73eb3ea83dbb679ee2a2ebfe400c1f4bc7af2e5", func := "remontoir/remontoirlaw03.StarTrue", spec := "starTrue", unfollowed := true, recurses := true, plainKeys := false, apart := false }
def StarTrueSaid : Prop := starTrueRow.holds Try.pinned (OpenSpec.ofChange starTrueSpec)

/-- ITS FALSE NEIGHBOUR: 'it returns false'. Refute it at one input. -/
def starTrueWrong : ChangeSpec := { name := "starTrue", fn := fun _ => fun
  | [d1, d2] => { results := [.lit (.bool false)], args := [d1, d2] }
  | _ => none }
def StarTrueWrongFalsely : Prop := starTrueRow.holds Try.pinned (OpenSpec.ofChange starTrueWrong)

/-- 'remontoirlaw03.StarEnds': WHATEVER THE INPUT: true; the input reads as it did. -/
def starEndsSpec : ChangeSpec := { name := "starEnds", fn := fun _ => fun
  | [d1, d2] => { results := [.lit (.bool true)], args := [d1, d2] }
  | _ => none }
def starEndsRow : OpenClaim := { program := "ytlpkheoljbdajaa", sum := "d7f3476db2c1028eb19f1133a73eb3ea83dbb679ee2a2ebfe400c1f4bc7af2e5", func := "remontoir/remontoirlaw03.StarEnds", spec := "starEnds", unfollowed := true, recurses := true, plainKeys := false, apart := false }
def StarEndsSaid : Prop := starEndsRow.holds Try.pinned (OpenSpec.ofChange starEndsSpec)

/-- ITS FALSE NEIGHBOUR: 'it returns false'. Refute it at one input. -/
def starEndsWrong : ChangeSpec := { name := "starEnds", fn := fun _ => fun
  | [d1, d2] => { results := [.lit (.bool false)], args := [d1, d2] }
  | _ => none }
def StarEndsWrongFalsely : Prop := starEndsRow.holds Try.pinned (OpenSpec.ofChange starEndsWrong)

/-- 'remontoirlaw03.StarPeople': WHATEVER THE INPUT: true; the input reads as it did. -/
def starPeopleSpec : ChangeSpec := { name := "starPeople", fn := fun _ => fun
  | [d1, d2] => { results := [.lit (.bool true)], args := [d1, d2] }
  | _ => none }
def starPeopleRow : OpenClaim := { program := "ytlpkheoljbdajaa", sum := "d7f3476db2c1028eb19f1133a73eb3ea83dbb679ee2a2ebfe400c1f4bc7af2e5", func := "remontoir/remontoirlaw03.StarPeople", spec := "starPeople", unfollowed := true, recurses := true, plainKeys := false, apart := false }
def StarPeopleSaid : Prop := starPeopleRow.holds Try.pinned (OpenSpec.ofChange starPeopleSpec)

/-- ITS FALSE NEIGHBOUR: 'it returns false'. Refute it at one input. -/
def starPeopleWrong : ChangeSpec := { name := "starPeople", fn := fun _ => fun
  | [d1, d2] => { results := [.lit (.bool false)], args := [d1, d2] }
  | _ => none }
def StarPeopleWrongFalsely : Prop := starPeopleRow.holds Try.pinned (OpenSpec.ofChange starPeopleWrong)

/-- 'remontoirlaw03.StarMore': WHATEVER THE INPUT: true; the input reads as it did. -/
def starMoreSpec : ChangeSpec := { name := "starMore", fn := fun _ => fun
  | [d1, d2, d3] => { results := [.lit (.bool true)], args := [d1, d2, d3] }
  | _ => none }
def starMoreRow : OpenClaim := { program := "ytlpkheoljbdajaa", sum := "d7f3476db2c1028eb19f1133a73eb3ea83dbb679ee2a2ebfe400c1f4bc7af2e5", func := "remontoir/remontoirlaw03.StarMore", spec := "starMore", unfollowed := true, recurses := true, plainKeys := false, apart := false }
def StarMoreSaid : Prop := starMoreRow.holds Try.pinned (OpenSpec.ofChange starMoreSpec)

/-- ITS FALSE NEIGHBOUR: 'it returns false'. Refute it at one input. -/
def starMoreWrong : ChangeSpec := { name := "starMore", fn := fun _ => fun
  | [d1, d2, d3] => { results := [.lit (.bool false)], args := [d1, d2, d3] }
  | _ => none }
def StarMoreWrongFalsely : Prop := starMoreRow.holds Try.pinned (OpenSpec.ofChange starMoreWrong)

/-- 'remontoirlaw03.StarWider': WHATEVER THE INPUT: true; the input reads as it did. -/
def starWiderSpec : ChangeSpec := { name := "starWider", fn := fun _ => fun
  | [d1, d2] => { results := [.lit (.bool true)], args := [d1, d2] }
  | _ => none }
def starWiderRow : OpenClaim := { program := "ytlpkheoljbdajaa", sum := "d7f3476db2c1028eb19f1133a73eb3ea83dbb679ee2a2ebfe400c1f4bc7af2e5", func := "remontoir/remontoirlaw03.StarWider", spec := "starWider", unfollowed := true, recurses := true, plainKeys := false, apart := false }
def StarWiderSaid : Prop := starWiderRow.holds Try.pinned (OpenSpec.ofChange starWiderSpec)

/-- ITS FALSE NEIGHBOUR: 'it returns false'. Refute it at one input. -/
def starWiderWrong : ChangeSpec := { name := "starWider", fn := fun _ => fun
  | [d1, d2] => { results := [.lit (.bool false)], args := [d1, d2] }
  | _ => none }
def StarWiderWrongFalsely : Prop := starWiderRow.holds Try.pinned (OpenSpec.ofChange starWiderWrong)

/-- 'remontoirlaw03.StarApart': WHATEVER THE INPUT: true; the input reads as it did. -/
def starApartSpec : ChangeSpec := { name := "starApart", fn := fun _ => fun
  | [d1, d2] => { results := [.lit (.bool true)], args := [d1, d2] }
  | _ => none }
def starApartRow : OpenClaim := { program := "ytlpkheoljbdajaa", sum := "d7f3476db2c1028eb19f1133a73eb3ea83dbb679ee2a2ebfe400c1f4bc7af2e5", func := "remontoir/remontoirlaw03.StarApart", spec := "starApart", unfollowed := true, recurses := true, plainKeys := false, apart := false }
def StarApartSaid : Prop := starApartRow.holds Try.pinned (OpenSpec.ofChange starApartSpec)

/-- ITS FALSE NEIGHBOUR: 'it returns false'. Refute it at one input. -/
def starApartWrong : ChangeSpec := { name := "starApart", fn := fun _ => fun
  | [d1, d2] => { results := [.lit (.bool false)], args := [d1, d2] }
  | _ => none }
def StarApartWrongFalsely : Prop := starApartRow.holds Try.pinned (OpenSpec.ofChange starApartWrong)

/-- 'remontoirlaw03.StarLeft': WHATEVER THE INPUT: true; the input reads as it did. -/
def starLeftSpec : ChangeSpec := { name := "starLeft", fn := fun _ => fun
  | [d1, d2] => { results := [.lit (.bool true)], args := [d1, d2] }
  | _ => none }
def starLeftRow : OpenClaim := { program := "ytlpkheoljbdajaa", sum := "d7f3476db2c1028eb19f1133a73eb3ea83dbb679ee2a2ebfe400c1f4bc7af2e5", func := "remontoir/remontoirlaw03.StarLeft", spec := "starLeft", unfollowed := true, recurses := true, plainKeys := false, apart := false }
def StarLeftSaid : Prop := starLeftRow.holds Try.pinned (OpenSpec.ofChange starLeftSpec)

/-- ITS FALSE NEIGHBOUR: 'it returns false'. Refute it at one input. -/
def starLeftWrong : ChangeSpec := { name := "starLeft", fn := fun _ => fun
  | [d1, d2] => { results := [.lit (.bool false)], args := [d1, d2] }
  | _ => none }
def StarLeftWrongFalsely : Prop := starLeftRow.holds Try.pinned (OpenSpec.ofChange starLeftWrong)

/-- 'remontoirlaw03.StarIdle': WHATEVER THE INPUT: true; the input reads as it did. -/
def starIdleSpec : ChangeSpec := { name := "starIdle", fn := fun _ => fun
  | [d1, d2] => { results := [.lit (.bool true)], args := [d1, d2] }
  | _ => none }
def starIdleRow : OpenClaim := { program := "ytlpkheoljbdajaa", sum := "d7f3476db2c1028eb19f1133a73eb3ea83dbb679ee2a2ebfe400c1f4bc7af2e5", func := "remontoir/remontoirlaw03.StarIdle", spec := "starIdle", unfollowed := true, recurses := true, plainKeys := false, apart := false }
def StarIdleSaid : Prop := starIdleRow.holds Try.pinned (OpenSpec.ofChange starIdleSpec)

/-- ITS FALSE NEIGHBOUR: 'it returns false'. Refute it at one input. -/
def starIdleWrong : ChangeSpec := { name := "starIdle", fn := fun _ => fun
  | [d1, d2] => { results := [.lit (.bool false)], args := [d1, d2] }
  | _ => none }
def StarIdleWrongFalsely : Prop := starIdleRow.holds Try.pinned (OpenSpec.ofChange starIdleWrong)

/-- 'remontoirlaw03.StarShifted': WHATEVER THE INPUT: true; the input reads as it did. -/
def starShiftedSpec : ChangeSpec := { name := "starShifted", fn := fun _ => fun
  | [d1, d2] => { results := [.lit (.bool true)], args := [d1, d2] }
  | _ => none }
def starShiftedRow : OpenClaim := { program := "ytlpkheoljbdajaa", sum := "d7f3476db2c1028eb19f1133a73eb3ea83dbb679ee2a2ebfe400c1f4bc7af2e5", func := "remontoir/remontoirlaw03.StarShifted", spec := "starShifted", unfollowed := true, recurses := true, plainKeys := false, apart := false }
def StarShiftedSaid : Prop := starShiftedRow.holds Try.pinned (OpenSpec.ofChange starShiftedSpec)

/-- ITS FALSE NEIGHBOUR: 'it returns false'. Refute it at one input. -/
def starShiftedWrong : ChangeSpec := { name := "starShifted", fn := fun _ => fun
  | [d1, d2] => { results := [.lit (.bool false)], args := [d1, d2] }
  | _ => none }
def StarShiftedWrongFalsely : Prop := starShiftedRow.holds Try.pinned (OpenSpec.ofChange starShiftedWrong)

/-- 'remontoirlaw03.StarKnown': WHATEVER THE INPUT: true; the input reads as it did. -/
def starKnownSpec : ChangeSpec := { name := "starKnown", fn := fun _ => fun
  | [] => { results := [.lit (.bool true)], args := [] }
  | _ => none }
def starKnownRow : OpenClaim := { program := "ytlpkheoljbdajaa", sum := "d7f3476db2c1028eb19f1133a73eb3ea83dbb679ee2a2ebfe400c1f4bc7af2e5", func := "remontoir/remontoirlaw03.StarKnown", spec := "starKnown", unfollowed := true, recurses := true, plainKeys := false, apart := false }
def StarKnownSaid : Prop := starKnownRow.holds Try.pinned (OpenSpec.ofChange starKnownSpec)

/-- ITS FALSE NEIGHBOUR: 'it returns false'. Refute it at one input. -/
def starKnownWrong : ChangeSpec := { name := "starKnown", fn := fun _ => fun
  | [] => { results := [.lit (.bool false)], args := [] }
  | _ => none }
def StarKnownWrongFalsely : Prop := starKnownRow.holds Try.pinned (OpenSpec.ofChange starKnownWrong)

/- THE SECOND FORM. 'bulk': how many values and letters a reading holds, each counted each time it is reached (what is shared counts as often as it is met; a slice's spare places count too). A statement '..UptoSaid' is the law's where the arguments, and the package variables that the reading takes, are together of bulk at most 1048576: NARROWER than '..Said'. Prove '..Said' where nothing that the law and all that it calls make is longer than what came in: it says more and counts as full. Else prove '..UptoSaid'. A law counts once. -/
mutual
def uptoBulk {H : Type} : DataW H → Nat
  | .lit (.string bytes) => bytes.length + 1
  | .lit _ => 1
  | .nil => 1
  | .ptr d => uptoBulk d + 1
  | .slice elems spare => uptoBulkAll elems + uptoBulkAll spare + 1
  | .agg parts => uptoBulkAll parts + 1
  | .iface _ d => uptoBulk d + 1
  | .map entries => uptoBulkEntries entries + 1
  | .held _ => 1
def uptoBulkAll {H : Type} : List (DataW H) → Nat
  | [] => 0
  | d :: r => uptoBulk d + uptoBulkAll r
def uptoBulkEntries {H : Type} : List (Lit × DataW H) → Nat
  | [] => 0
  | x :: r => uptoBulkEntry x + uptoBulkEntries r
def uptoBulkEntry {H : Type} : Lit × DataW H → Nat
  | (.string bytes, d) => bytes.length + uptoBulk d + 1
  | (_, d) => uptoBulk d + 1
 end
def uptoSmall : (H : Type) → List (DataW H) → Bool := fun _ ds => decide (uptoBulkAll ds ≤ 1048576)
def OpenSpec.upto (s : _root_.Go.ChangeSpec) : _root_.Go.OpenSpec := { _root_.Go.OpenSpec.ofChange s with cond := some uptoSmall }

/-- 'remontoirlaw03.StarTruths', WHERE WHAT IT READS IS OF BULK AT MOST 1048576: true; the input reads as it did. -/
def starTruthsUptoRow : OpenClaim := { program := "ytlpkheoljbdajaa", sum := "d7f3476db2c1028eb19f1133a73eb3ea83dbb679ee2a2ebfe400c1f4bc7af2e5", func := "remontoir/remontoirlaw03.StarTruths", spec := "starTruths", unfollowed := true, recurses := true, plainKeys := false, apart := false, narrowed := true }
def StarTruthsUptoSaid : Prop := starTruthsUptoRow.holds Try.pinned (OpenSpec.upto starTruthsSpec)

/-- 'remontoirlaw03.StarSpans', WHERE WHAT IT READS IS OF BULK AT MOST 1048576: true; the input reads as it did. -/
def starSpansUptoRow : OpenClaim := { program := "ytlpkheoljbdajaa", sum := "d7f3476db2c1028eb19f1133a73eb3ea83dbb679ee2a2ebfe400c1f4bc7af2e5", func := "remontoir/remontoirlaw03.StarSpans", spec := "starSpans", unfollowed := true, recurses := true, plainKeys := false, apart := false, narrowed := true }
def StarSpansUptoSaid : Prop := starSpansUptoRow.holds Try.pinned (OpenSpec.upto starSpansSpec)

/-- 'remontoirlaw03.StarCases', WHERE WHAT IT READS IS OF BULK AT MOST 1048576: true; the input reads as it did. -/
def starCasesUptoRow : OpenClaim := { program := "ytlpkheoljbdajaa", sum := "d7f3476db2c1028eb19f1133a73eb3ea83dbb679ee2a2ebfe400c1f4bc7af2e5", func := "remontoir/remontoirlaw03.StarCases", spec := "starCases", unfollowed := true, recurses := true, plainKeys := false, apart := false, narrowed := true }
def StarCasesUptoSaid : Prop := starCasesUptoRow.holds Try.pinned (OpenSpec.upto starCasesSpec)

/-- 'remontoirlaw03.StarWrongs', WHERE WHAT IT READS IS OF BULK AT MOST 1048576: true; the input reads as it did. -/
def starWrongsUptoRow : OpenClaim := { program := "ytlpkheoljbdajaa", sum := "d7f3476db2c1028eb19f1133a73eb3ea83dbb679ee2a2ebfe400c1f4bc7af2e5", func := "remontoir/remontoirlaw03.StarWrongs", spec := "starWrongs", unfollowed := true, recurses := true, plainKeys := false, apart := false, narrowed := true }
def StarWrongsUptoSaid : Prop := starWrongsUptoRow.holds Try.pinned (OpenSpec.upto starWrongsSpec)

/-- 'remontoirlaw03.StarTrue', WHERE WHAT IT READS IS OF BULK AT MOST 1048576: true; the input reads as it did. -/
def starTrueUptoRow : OpenClaim := { program := "ytlpkheoljbdajaa", sum := "d7f3476db2c1028eb19f1133a73eb3ea83dbb679ee2a2ebfe400c1f4bc7af2e5", func := "remontoir/remontoirlaw03.StarTrue", spec := "starTrue", unfollowed := true, recurses := true, plainKeys := false, apart := false, narrowed := true }
def StarTrueUptoSaid : Prop := starTrueUptoRow.holds Try.pinned (OpenSpec.upto starTrueSpec)

/-- 'remontoirlaw03.StarEnds', WHERE WHAT IT READS IS OF BULK AT MOST 1048576: true; the input reads as it did. -/
def starEndsUptoRow : OpenClaim := { program := "ytlpkheoljbdajaa", sum := "d7f3476db2c1028eb19f1133a73eb3ea83dbb679ee2a2ebfe400c1f4bc7af2e5", func := "remontoir/remontoirlaw03.StarEnds", spec := "starEnds", unfollowed := true, recurses := true, plainKeys := false, apart := false, narrowed := true }
def StarEndsUptoSaid : Prop := starEndsUptoRow.holds Try.pinned (OpenSpec.upto starEndsSpec)

/-- 'remontoirlaw03.StarPeople', WHERE WHAT IT READS IS OF BULK AT MOST 1048576: true; the input reads as it did. -/
def starPeopleUptoRow : OpenClaim := { program := "ytlpkheoljbdajaa", sum := "d7f3476db2c1028eb19f1133a73eb3ea83dbb679ee2a2ebfe400c1f4bc7af2e5", func := "remontoir/remontoirlaw03.StarPeople", spec := "starPeople", unfollowed := true, recurses := true, plainKeys := false, apart := false, narrowed := true }
def StarPeopleUptoSaid : Prop := starPeopleUptoRow.holds Try.pinned (OpenSpec.upto starPeopleSpec)

/-- 'remontoirlaw03.StarMore', WHERE WHAT IT READS IS OF BULK AT MOST 1048576: true; the input reads as it did. -/
def starMoreUptoRow : OpenClaim := { program := "ytlpkheoljbdajaa", sum := "d7f3476db2c1028eb19f1133a73eb3ea83dbb679ee2a2ebfe400c1f4bc7af2e5", func := "remontoir/remontoirlaw03.StarMore", spec := "starMore", unfollowed := true, recurses := true, plainKeys := false, apart := false, narrowed := true }
def StarMoreUptoSaid : Prop := starMoreUptoRow.holds Try.pinned (OpenSpec.upto starMoreSpec)

/-- 'remontoirlaw03.StarWider', WHERE WHAT IT READS IS OF BULK AT MOST 1048576: true; the input reads as it did. -/
def starWiderUptoRow : OpenClaim := { program := "ytlpkheoljbdajaa", sum := "d7f3476db2c1028eb19f1133a73eb3ea83dbb679ee2a2ebfe400c1f4bc7af2e5", func := "remontoir/remontoirlaw03.StarWider", spec := "starWider", unfollowed := true, recurses := true, plainKeys := false, apart := false, narrowed := true }
def StarWiderUptoSaid : Prop := starWiderUptoRow.holds Try.pinned (OpenSpec.upto starWiderSpec)

/-- 'remontoirlaw03.StarApart', WHERE WHAT IT READS IS OF BULK AT MOST 1048576: true; the input reads as it did. -/
def starApartUptoRow : OpenClaim := { program := "ytlpkheoljbdajaa", sum := "d7f3476db2c1028eb19f1133a73eb3ea83dbb679ee2a2ebfe400c1f4bc7af2e5", func := "remontoir/remontoirlaw03.StarApart", spec := "starApart", unfollowed := true, recurses := true, plainKeys := false, apart := false, narrowed := true }
def StarApartUptoSaid : Prop := starApartUptoRow.holds Try.pinned (OpenSpec.upto starApartSpec)

/-- 'remontoirlaw03.StarLeft', WHERE WHAT IT READS IS OF BULK AT MOST 1048576: true; the input reads as it did. -/
def starLeftUptoRow : OpenClaim := { program := "ytlpkheoljbdajaa", sum := "d7f3476db2c1028eb19f1133a73eb3ea83dbb679ee2a2ebfe400c1f4bc7af2e5", func := "remontoir/remontoirlaw03.StarLeft", spec := "starLeft", unfollowed := true, recurses := true, plainKeys := false, apart := false, narrowed := true }
def StarLeftUptoSaid : Prop := starLeftUptoRow.holds Try.pinned (OpenSpec.upto starLeftSpec)

/-- 'remontoirlaw03.StarIdle', WHERE WHAT IT READS IS OF BULK AT MOST 1048576: true; the input reads as it did. -/
def starIdleUptoRow : OpenClaim := { program := "ytlpkheoljbdajaa", sum := "d7f3476db2c1028eb19f1133a73eb3ea83dbb679ee2a2ebfe400c1f4bc7af2e5", func := "remontoir/remontoirlaw03.StarIdle", spec := "starIdle", unfollowed := true, recurses := true, plainKeys := false, apart := false, narrowed := true }
def StarIdleUptoSaid : Prop := starIdleUptoRow.holds Try.pinned (OpenSpec.upto starIdleSpec)

/-- 'remontoirlaw03.StarShifted', WHERE WHAT IT READS IS OF BULK AT MOST 1048576: true; the input reads as it did. -/
def starShiftedUptoRow : OpenClaim := { program := "ytlpkheoljbdajaa", sum := "d7f3476db2c1028eb19f1133a73eb3ea83dbb679ee2a2ebfe400c1f4bc7af2e5", func := "remontoir/remontoirlaw03.StarShifted", spec := "starShifted", unfollowed := true, recurses := true, plainKeys := false, apart := false, narrowed := true }
def StarShiftedUptoSaid : Prop := starShiftedUptoRow.holds Try.pinned (OpenSpec.upto starShiftedSpec)

/-- 'remontoirlaw03.StarKnown', WHERE WHAT IT READS IS OF BULK AT MOST 1048576: true; the input reads as it did. -/
def starKnownUptoRow : OpenClaim := { program := "ytlpkheoljbdajaa", sum := "d7f3476db2c1028eb19f1133a73eb3ea83dbb679ee2a2ebfe400c1f4bc7af2e5", func := "remontoir/remontoirlaw03.StarKnown", spec := "starKnown", unfollowed := true, recurses := true, plainKeys := false, apart := false, narrowed := true }
def StarKnownUptoSaid : Prop := starKnownUptoRow.holds Try.pinned (OpenSpec.upto starKnownSpec)

end Rows
end Go.Proofs.Ytlpkheoljbdajaa
