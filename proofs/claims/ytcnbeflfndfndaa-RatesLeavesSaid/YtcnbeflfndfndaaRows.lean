/-
  No cell of these rows narrows 'for every input' (looked for: loops, veiled, ifaces, maps, wideKeys, modest, calm, conditions, laid).
  DERIVED. THE GIVEN ROWS OF THIS SEAT. 7 by the template 'for every input the law returns true; each argument reads behind the call as it read before'; 0 by the template 'total and deterministic' (their statements: YtcnbeflfndfndaaTotals.lean).
  GIVEN WITH THE SEED: the statements are not yours to turn. If you find one false, say at which input.
  Laid BY PROGRAM, IN A SANDBOX (cutbox-rows.mjs): the forced cells as the released guide's own fill.sh prints them over the translation 7ef5c7b3bc722ac9… (all of the seat's roots in one cut). By AI agents, Wed Nov 11 2026. No macro, syntax, notation, axiom, sorry.
-/
import Derived.Test.YtcnbeflfndfndaaChecked
import GoSem.Claim
import GoSem.ClaimJoined
import GoSem.ClaimMapViews
import Derived.JoinedTies
import Derived.KernelRfl
namespace Go.Proofs.Ytcnbeflfndfndaa
/- THE CELL 'sum', in the pinned program and in every row, IS THE sha256 OF THE DUMP (.gsa) THAT YtcnbeflfndfndaaProg.lean LOADS. Nothing in Lean hashes anything: it is a label: what it is worth is what the hold of that sum in a sandbox is worth. -/
noncomputable def Try.pinned : Pinned := { name := "ytcnbeflfndfndaa", sum := "7ef5c7b3bc722ac9b8105cf65d074403155e1e6cf4ea390818feb41c664d4d8f", checked := Try.checked }
namespace Rows
def none {H : Type} : Left H := { results := [], args := [] }

/-- 'fedchatlaw48.RatesNews': WHATEVER THE INPUT: true; the input reads as it did. -/
def ratesNewsSpec : ChangeSpec := { name := "ratesNews", fn := fun _ => fun
  | [d1, d2, d3] => { results := [.lit (.bool true)], args := [d1, d2, d3] }
  | _ => none }
def ratesNewsRow : OpenClaim := { program := "ytcnbeflfndfndaa", sum := "7ef5c7b3bc722ac9b8105cf65d074403155e1e6cf4ea390818feb41c664d4d8f", func := "fedchat/fedchatlaw48.RatesNews", spec := "ratesNews", apart := false }
def RatesNewsSaid : Prop := ratesNewsRow.holds Try.pinned (OpenSpec.ofChange ratesNewsSpec)

/-- ITS FALSE NEIGHBOUR: 'it returns false'. Refute it at one input. -/
def ratesNewsWrong : ChangeSpec := { name := "ratesNews", fn := fun _ => fun
  | [d1, d2, d3] => { results := [.lit (.bool false)], args := [d1, d2, d3] }
  | _ => none }
def RatesNewsWrongFalsely : Prop := ratesNewsRow.holds Try.pinned (OpenSpec.ofChange ratesNewsWrong)

/-- 'fedchatlaw48.RatesTakes': WHATEVER THE INPUT: true; the input reads as it did. -/
def ratesTakesSpec : ChangeSpec := { name := "ratesTakes", fn := fun _ => fun
  | [d1, d2, d3] => { results := [.lit (.bool true)], args := [d1, d2, d3] }
  | _ => none }
def ratesTakesRow : OpenClaim := { program := "ytcnbeflfndfndaa", sum := "7ef5c7b3bc722ac9b8105cf65d074403155e1e6cf4ea390818feb41c664d4d8f", func := "fedchat/fedchatlaw48.RatesTakes", spec := "ratesTakes", apart := false }
def RatesTakesSaid : Prop := ratesTakesRow.holds Try.pinned (OpenSpec.ofChange ratesTakesSpec)

/-- ITS FALSE NEIGHBOUR: 'it returns false'. Refute it at one input. -/
def ratesTakesWrong : ChangeSpec := { name := "ratesTakes", fn := fun _ => fun
  | [d1, d2, d3] => { results := [.lit (.bool false)], args := [d1, d2, d3] }
  | _ => none }
def RatesTakesWrongFalsely : Prop := ratesTakesRow.holds Try.pinned (OpenSpec.ofChange ratesTakesWrong)

/-- 'fedchatlaw48.RatesWaits': WHATEVER THE INPUT: true; the input reads as it did. -/
def ratesWaitsSpec : ChangeSpec := { name := "ratesWaits", fn := fun _ => fun
  | [d1, d2, d3] => { results := [.lit (.bool true)], args := [d1, d2, d3] }
  | _ => none }
def ratesWaitsRow : OpenClaim := { program := "ytcnbeflfndfndaa", sum := "7ef5c7b3bc722ac9b8105cf65d074403155e1e6cf4ea390818feb41c664d4d8f", func := "fedchat/fedchatlaw48.RatesWaits", spec := "ratesWaits", apart := false }
def RatesWaitsSaid : Prop := ratesWaitsRow.holds Try.pinned (OpenSpec.ofChange ratesWaitsSpec)

/-- ITS FALSE NEIGHBOUR: 'it returns false'. Refute it at one input. -/
def ratesWaitsWrong : ChangeSpec := { name := "ratesWaits", fn := fun _ => fun
  | [d1, d2, d3] => { results := [.lit (.bool false)], args := [d1, d2, d3] }
  | _ => none }
def RatesWaitsWrongFalsely : Prop := ratesWaitsRow.holds Try.pinned (OpenSpec.ofChange ratesWaitsWrong)

/-- 'fedchatlaw48.RatesSoonest': WHATEVER THE INPUT: true; the input reads as it did. -/
def ratesSoonestSpec : ChangeSpec := { name := "ratesSoonest", fn := fun _ => fun
  | [d1, d2, d3, d4] => { results := [.lit (.bool true)], args := [d1, d2, d3, d4] }
  | _ => none }
def ratesSoonestRow : OpenClaim := { program := "ytcnbeflfndfndaa", sum := "7ef5c7b3bc722ac9b8105cf65d074403155e1e6cf4ea390818feb41c664d4d8f", func := "fedchat/fedchatlaw48.RatesSoonest", spec := "ratesSoonest", apart := false }
def RatesSoonestSaid : Prop := ratesSoonestRow.holds Try.pinned (OpenSpec.ofChange ratesSoonestSpec)

/-- ITS FALSE NEIGHBOUR: 'it returns false'. Refute it at one input. -/
def ratesSoonestWrong : ChangeSpec := { name := "ratesSoonest", fn := fun _ => fun
  | [d1, d2, d3, d4] => { results := [.lit (.bool false)], args := [d1, d2, d3, d4] }
  | _ => none }
def RatesSoonestWrongFalsely : Prop := ratesSoonestRow.holds Try.pinned (OpenSpec.ofChange ratesSoonestWrong)

/-- 'fedchatlaw48.RatesLeaves': WHATEVER THE INPUT: true; the input reads as it did. -/
def ratesLeavesSpec : ChangeSpec := { name := "ratesLeaves", fn := fun _ => fun
  | [d1, d2, d3] => { results := [.lit (.bool true)], args := [d1, d2, d3] }
  | _ => none }
def ratesLeavesRow : OpenClaim := { program := "ytcnbeflfndfndaa", sum := "7ef5c7b3bc722ac9b8105cf65d074403155e1e6cf4ea390818feb41c664d4d8f", func := "fedchat/fedchatlaw48.RatesLeaves", spec := "ratesLeaves", apart := false }
def RatesLeavesSaid : Prop := ratesLeavesRow.holds Try.pinned (OpenSpec.ofChange ratesLeavesSpec)

/-- ITS FALSE NEIGHBOUR: 'it returns false'. Refute it at one input. -/
def ratesLeavesWrong : ChangeSpec := { name := "ratesLeaves", fn := fun _ => fun
  | [d1, d2, d3] => { results := [.lit (.bool false)], args := [d1, d2, d3] }
  | _ => none }
def RatesLeavesWrongFalsely : Prop := ratesLeavesRow.holds Try.pinned (OpenSpec.ofChange ratesLeavesWrong)

/-- 'fedchatlaw48.RatesBounds': WHATEVER THE INPUT: true; the input reads as it did. -/
def ratesBoundsSpec : ChangeSpec := { name := "ratesBounds", fn := fun _ => fun
  | [d1, d2] => { results := [.lit (.bool true)], args := [d1, d2] }
  | _ => none }
def ratesBoundsRow : OpenClaim := { program := "ytcnbeflfndfndaa", sum := "7ef5c7b3bc722ac9b8105cf65d074403155e1e6cf4ea390818feb41c664d4d8f", func := "fedchat/fedchatlaw48.RatesBounds", spec := "ratesBounds", apart := false }
def RatesBoundsSaid : Prop := ratesBoundsRow.holds Try.pinned (OpenSpec.ofChange ratesBoundsSpec)

/-- ITS FALSE NEIGHBOUR: 'it returns false'. Refute it at one input. -/
def ratesBoundsWrong : ChangeSpec := { name := "ratesBounds", fn := fun _ => fun
  | [d1, d2] => { results := [.lit (.bool false)], args := [d1, d2] }
  | _ => none }
def RatesBoundsWrongFalsely : Prop := ratesBoundsRow.holds Try.pinned (OpenSpec.ofChange ratesBoundsWrong)

/-- 'fedchatlaw48.RatesGrows': WHATEVER THE INPUT: true; the input reads as it did. -/
def ratesGrowsSpec : ChangeSpec := { name := "ratesGrows", fn := fun _ => fun
  | [d1, d2, d3] => { results := [.lit (.bool true)], args := [d1, d2, d3] }
  | _ => none }
def ratesGrowsRow : OpenClaim := { program := "ytcnbeflfndfndaa", sum := "7ef5c7b3bc722ac9b8105cf65d074403155e1e6cf4ea390818feb41c664d4d8f", func := "fedchat/fedchatlaw48.RatesGrows", spec := "ratesGrows", apart := false }
def RatesGrowsSaid : Prop := ratesGrowsRow.holds Try.pinned (OpenSpec.ofChange ratesGrowsSpec)

/-- ITS FALSE NEIGHBOUR: 'it returns false'. Refute it at one input. -/
def ratesGrowsWrong : ChangeSpec := { name := "ratesGrows", fn := fun _ => fun
  | [d1, d2, d3] => { results := [.lit (.bool false)], args := [d1, d2, d3] }
  | _ => none }
def RatesGrowsWrongFalsely : Prop := ratesGrowsRow.holds Try.pinned (OpenSpec.ofChange ratesGrowsWrong)

/- THE SECOND FORM. 'bulk': how many values and letters a reading holds, each counted each time it is reached (what is shared counts as often as it is met; a slice's spare places count too). A statement '..UptoSaid' is the law's where the arguments, and the package variables that the reading takes, are together of bulk at most 1048576: NARROWER than '..Said'. Prove '..Said' where nothing that the law and all that it calls make is longer than what came in: it says more and counts as full. Else prove '..UptoSaid'. A law counts once. -/
mutual
def uptoBulk {H : Type} : DataW H → Nat
  | .lit (.string bytes) => bytes.length + 1
  | .lit _ => 1
  | .nil => 1
  | .ptr d => uptoBulk d + 1
  | .slice elems spare => uptoBulkAll elems + uptoBulkAll spare + 1
  | .agg parts => uptoBulkAll parts + 1
  | .iface _ d => uptoBulk d + 1
  | .map entries => uptoBulkEntries entries + 1
  | .held _ => 1
def uptoBulkAll {H : Type} : List (DataW H) → Nat
  | [] => 0
  | d :: r => uptoBulk d + uptoBulkAll r
def uptoBulkEntries {H : Type} : List (Lit × DataW H) → Nat
  | [] => 0
  | x :: r => uptoBulkEntry x + uptoBulkEntries r
def uptoBulkEntry {H : Type} : Lit × DataW H → Nat
  | (.string bytes, d) => bytes.length + uptoBulk d + 1
  | (_, d) => uptoBulk d + 1
 end
def uptoSmall : (H : Type) → List (DataW H) → Bool := fun _ ds => decide (uptoBulkAll ds ≤ 1048576)
def OpenSpec.upto (s : _root_.Go.ChangeSpec) : _root_.Go.OpenSpec := { _root_.Go.OpenSpec.ofChange s with cond := some uptoSmall }

/-- 'fedchatlaw48.RatesNews', WHERE WHAT IT READS IS OF BULK AT MOST 1048576: true; the input reads as it did. -/
def ratesNewsUptoRow : OpenClaim := { program := "ytcnbeflfndfndaa", sum := "7ef5c7b3bc722ac9b8105cf65d074403155e1e6cf4ea390818feb41c664d4d8f", func := "fedchat/fedchatlaw48.RatesNews", spec := "ratesNews", apart := false, narrowed := true }
def RatesNewsUptoSaid : Prop := ratesNewsUptoRow.holds Try.pinned (OpenSpec.upto ratesNewsSpec)

/-- 'fedchatlaw48.RatesTakes', WHERE WHAT IT READS IS OF BULK AT MOST 1048576: true; the input reads as it did. -/
def ratesTakesUptoRow : OpenClaim := { program := "ytcnbeflfndfndaa", sum := "7ef5c7b3bc722ac9b8105cf65d074403155e1e6cf4ea390818feb41c664d4d8f", func := "fedchat/fedchatlaw48.RatesTakes", spec := "ratesTakes", apart := false, narrowed := true }
def RatesTakesUptoSaid : Prop := ratesTakesUptoRow.holds Try.pinned (OpenSpec.upto ratesTakesSpec)

/-- 'fedchatlaw48.RatesWaits', WHERE WHAT IT READS IS OF BULK AT MOST 1048576: true; the input reads as it did. -/
def ratesWaitsUptoRow : OpenClaim := { program := "ytcnbeflfndfndaa", sum := "7ef5c7b3bc722ac9b8105cf65d074403155e1e6cf4ea390818feb41c664d4d8f", func := "fedchat/fedchatlaw48.RatesWaits", spec := "ratesWaits", apart := false, narrowed := true }
def RatesWaitsUptoSaid : Prop := ratesWaitsUptoRow.holds Try.pinned (OpenSpec.upto ratesWaitsSpec)

/-- 'fedchatlaw48.RatesSoonest', WHERE WHAT IT READS IS OF BULK AT MOST 1048576: true; the input reads as it did. -/
def ratesSoonestUptoRow : OpenClaim := { program := "ytcnbeflfndfndaa", sum := "7ef5c7b3bc722ac9b8105cf65d074403155e1e6cf4ea390818feb41c664d4d8f", func := "fedchat/fedchatlaw48.RatesSoonest", spec := "ratesSoonest", apart := false, narrowed := true }
def RatesSoonestUptoSaid : Prop := ratesSoonestUptoRow.holds Try.pinned (OpenSpec.upto ratesSoonestSpec)

/-- 'fedchatlaw48.RatesLeaves', WHERE WHAT IT READS IS OF BULK AT MOST 1048576: true; the input reads as it did. -/
def ratesLeavesUptoRow : OpenClaim := { program := "ytcnbeflfndfndaa", sum := "7ef5c7b3bc722ac9b8105cf65d074403155e1e6cf4ea390818feb41c664d4d8f", func := "fedchat/fedchatlaw48.RatesLeaves", spec := "ratesLeaves", apart := false, narrowed := true }
def RatesLeavesUptoSaid : Prop := ratesLeavesUptoRow.holds Try.pinned (OpenSpec.upto ratesLeavesSpec)

/-- 'fedchatlaw48.RatesBounds', WHERE WHAT IT READS IS OF BULK AT MOST 1048576: true; the input reads as it did. -/
def ratesBoundsUptoRow : OpenClaim := { program := "ytcnbeflfndfndaa", sum := "7ef5c7b3bc722ac9b8105cf65d074403155e1e6cf4ea390818feb41c664d4d8f", func := "fedchat/fedchatlaw48.RatesBounds", spec := "ratesBounds", apart := false, narrowed := true }
def RatesBoundsUptoSaid : Prop := ratesBoundsUptoRow.holds Try.pinned (OpenSpec.upto ratesBoundsSpec)

/-- 'fedchatlaw48.RatesGrows', WHERE WHAT IT READS IS OF BULK AT MOST 1048576: true; the input reads as it did. -/
def ratesGrowsUptoRow : OpenClaim := { program := "ytcnbeflfndfndaa", sum := "7ef5c7b3bc722ac9b8105cf65d074403155e1e6cf4ea390818feb41c664d4d8f", func := "fedchat/fedchatlaw48.RatesGrows", spec := "ratesGrows", apart := false, narrowed := true }
def RatesGrowsUptoSaid : Prop := ratesGrowsUptoRow.holds Try.pinned (OpenSpec.upto ratesGrowsSpec)

end Rows
end Go.Proofs.Ytcnbeflfndfndaa
