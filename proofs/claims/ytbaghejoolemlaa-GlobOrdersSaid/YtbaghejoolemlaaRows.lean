/-
  No cell of these rows narrows 'for every input' (looked for: loops, veiled, ifaces, maps, wideKeys, modest, calm, conditions, laid).
  DERIVED. THE GIVEN ROWS OF THIS SEAT. 7 by the template 'for every input the law returns true; each argument reads behind the call as it read before'; 0 by the template 'total and deterministic' (their statements: YtbaghejoolemlaaTotals.lean).
  GIVEN WITH THE SEED: the statements are not yours to turn. If you find one false, say at which input.
  Laid BY PROGRAM, IN A SANDBOX (cutbox-rows.mjs): the forced cells as the released guide's own fill.sh prints them over the translation 4141e1fdf1be98a5… (all of the seat's roots in one cut). By AI agents, Wed Nov 11 2026. No macro, syntax, notation, axiom, sorry.
-/
import Derived.Test.YtbaghejoolemlaaChecked
import GoSem.Claim
import GoSem.ClaimJoined
import GoSem.ClaimMapViews
import Derived.JoinedTies
import Derived.KernelRfl
namespace Go.Proofs.Ytbaghejoolemlaa
/- THE CELL 'sum', in the pinned program and in every row, IS THE sha256 OF THE DUMP (.gsa) THAT YtbaghejoolemlaaProg.lean LOADS. Nothing in Lean hashes anything: it is a label: what it is worth is what the hold of that sum in a sandbox is worth. -/
noncomputable def Try.pinned : Pinned := { name := "ytbaghejoolemlaa", sum := "4141e1fdf1be98a5aa08e5b874712ac90c2ac4feb17891a1304eed1e95efb3e0", checked := Try.checked }
namespace Rows
def none {H : Type} : Left H := { results := [], args := [] }

/-- 'fedchatlaw03.GlobChecks': WHATEVER THE INPUT: true; the input reads as it did. -/
def globChecksSpec : ChangeSpec := { name := "globChecks", fn := fun _ => fun
  | [d] => { results := [.lit (.bool true)], args := [d] }
  | _ => none }
def globChecksRow : OpenClaim := { program := "ytbaghejoolemlaa", sum := "4141e1fdf1be98a5aa08e5b874712ac90c2ac4feb17891a1304eed1e95efb3e0", func := "fedchat/fedchatlaw03.GlobChecks", spec := "globChecks", apart := false }
def GlobChecksSaid : Prop := globChecksRow.holds Try.pinned (OpenSpec.ofChange globChecksSpec)

/-- ITS FALSE NEIGHBOUR: 'it returns false'. Refute it at one input. -/
def globChecksWrong : ChangeSpec := { name := "globChecks", fn := fun _ => fun
  | [d] => { results := [.lit (.bool false)], args := [d] }
  | _ => none }
def GlobChecksWrongFalsely : Prop := globChecksRow.holds Try.pinned (OpenSpec.ofChange globChecksWrong)

/-- 'fedchatlaw03.GlobMatches': WHATEVER THE INPUT: true; the input reads as it did. -/
def globMatchesSpec : ChangeSpec := { name := "globMatches", fn := fun _ => fun
  | [d1, d2] => { results := [.lit (.bool true)], args := [d1, d2] }
  | _ => none }
def globMatchesRow : OpenClaim := { program := "ytbaghejoolemlaa", sum := "4141e1fdf1be98a5aa08e5b874712ac90c2ac4feb17891a1304eed1e95efb3e0", func := "fedchat/fedchatlaw03.GlobMatches", spec := "globMatches", apart := false }
def GlobMatchesSaid : Prop := globMatchesRow.holds Try.pinned (OpenSpec.ofChange globMatchesSpec)

/-- ITS FALSE NEIGHBOUR: 'it returns false'. Refute it at one input. -/
def globMatchesWrong : ChangeSpec := { name := "globMatches", fn := fun _ => fun
  | [d1, d2] => { results := [.lit (.bool false)], args := [d1, d2] }
  | _ => none }
def GlobMatchesWrongFalsely : Prop := globMatchesRow.holds Try.pinned (OpenSpec.ofChange globMatchesWrong)

/-- 'fedchatlaw03.GlobFinds': WHATEVER THE INPUT: true; the input reads as it did. -/
def globFindsSpec : ChangeSpec := { name := "globFinds", fn := fun _ => fun
  | [d1, d2] => { results := [.lit (.bool true)], args := [d1, d2] }
  | _ => none }
def globFindsRow : OpenClaim := { program := "ytbaghejoolemlaa", sum := "4141e1fdf1be98a5aa08e5b874712ac90c2ac4feb17891a1304eed1e95efb3e0", func := "fedchat/fedchatlaw03.GlobFinds", spec := "globFinds", apart := false }
def GlobFindsSaid : Prop := globFindsRow.holds Try.pinned (OpenSpec.ofChange globFindsSpec)

/-- ITS FALSE NEIGHBOUR: 'it returns false'. Refute it at one input. -/
def globFindsWrong : ChangeSpec := { name := "globFinds", fn := fun _ => fun
  | [d1, d2] => { results := [.lit (.bool false)], args := [d1, d2] }
  | _ => none }
def GlobFindsWrongFalsely : Prop := globFindsRow.holds Try.pinned (OpenSpec.ofChange globFindsWrong)

/-- 'fedchatlaw03.GlobPlains': WHATEVER THE INPUT: true; the input reads as it did. -/
def globPlainsSpec : ChangeSpec := { name := "globPlains", fn := fun _ => fun
  | [d1, d2] => { results := [.lit (.bool true)], args := [d1, d2] }
  | _ => none }
def globPlainsRow : OpenClaim := { program := "ytbaghejoolemlaa", sum := "4141e1fdf1be98a5aa08e5b874712ac90c2ac4feb17891a1304eed1e95efb3e0", func := "fedchat/fedchatlaw03.GlobPlains", spec := "globPlains", apart := false }
def GlobPlainsSaid : Prop := globPlainsRow.holds Try.pinned (OpenSpec.ofChange globPlainsSpec)

/-- ITS FALSE NEIGHBOUR: 'it returns false'. Refute it at one input. -/
def globPlainsWrong : ChangeSpec := { name := "globPlains", fn := fun _ => fun
  | [d1, d2] => { results := [.lit (.bool false)], args := [d1, d2] }
  | _ => none }
def GlobPlainsWrongFalsely : Prop := globPlainsRow.holds Try.pinned (OpenSpec.ofChange globPlainsWrong)

/-- 'fedchatlaw03.GlobCuts': WHATEVER THE INPUT: true; the input reads as it did. -/
def globCutsSpec : ChangeSpec := { name := "globCuts", fn := fun _ => fun
  | [d1, d2, d3] => { results := [.lit (.bool true)], args := [d1, d2, d3] }
  | _ => none }
def globCutsRow : OpenClaim := { program := "ytbaghejoolemlaa", sum := "4141e1fdf1be98a5aa08e5b874712ac90c2ac4feb17891a1304eed1e95efb3e0", func := "fedchat/fedchatlaw03.GlobCuts", spec := "globCuts", apart := false }
def GlobCutsSaid : Prop := globCutsRow.holds Try.pinned (OpenSpec.ofChange globCutsSpec)

/-- ITS FALSE NEIGHBOUR: 'it returns false'. Refute it at one input. -/
def globCutsWrong : ChangeSpec := { name := "globCuts", fn := fun _ => fun
  | [d1, d2, d3] => { results := [.lit (.bool false)], args := [d1, d2, d3] }
  | _ => none }
def GlobCutsWrongFalsely : Prop := globCutsRow.holds Try.pinned (OpenSpec.ofChange globCutsWrong)

/-- 'fedchatlaw03.GlobLeasts': WHATEVER THE INPUT: true; the input reads as it did. -/
def globLeastsSpec : ChangeSpec := { name := "globLeasts", fn := fun _ => fun
  | [d1, d2] => { results := [.lit (.bool true)], args := [d1, d2] }
  | _ => none }
def globLeastsRow : OpenClaim := { program := "ytbaghejoolemlaa", sum := "4141e1fdf1be98a5aa08e5b874712ac90c2ac4feb17891a1304eed1e95efb3e0", func := "fedchat/fedchatlaw03.GlobLeasts", spec := "globLeasts", apart := false }
def GlobLeastsSaid : Prop := globLeastsRow.holds Try.pinned (OpenSpec.ofChange globLeastsSpec)

/-- ITS FALSE NEIGHBOUR: 'it returns false'. Refute it at one input. -/
def globLeastsWrong : ChangeSpec := { name := "globLeasts", fn := fun _ => fun
  | [d1, d2] => { results := [.lit (.bool false)], args := [d1, d2] }
  | _ => none }
def GlobLeastsWrongFalsely : Prop := globLeastsRow.holds Try.pinned (OpenSpec.ofChange globLeastsWrong)

/-- 'fedchatlaw03.GlobOrders': WHATEVER THE INPUT: true; the input reads as it did. -/
def globOrdersSpec : ChangeSpec := { name := "globOrders", fn := fun _ => fun
  | [d1, d2, d3] => { results := [.lit (.bool true)], args := [d1, d2, d3] }
  | _ => none }
def globOrdersRow : OpenClaim := { program := "ytbaghejoolemlaa", sum := "4141e1fdf1be98a5aa08e5b874712ac90c2ac4feb17891a1304eed1e95efb3e0", func := "fedchat/fedchatlaw03.GlobOrders", spec := "globOrders", apart := false }
def GlobOrdersSaid : Prop := globOrdersRow.holds Try.pinned (OpenSpec.ofChange globOrdersSpec)

/-- ITS FALSE NEIGHBOUR: 'it returns false'. Refute it at one input. -/
def globOrdersWrong : ChangeSpec := { name := "globOrders", fn := fun _ => fun
  | [d1, d2, d3] => { results := [.lit (.bool false)], args := [d1, d2, d3] }
  | _ => none }
def GlobOrdersWrongFalsely : Prop := globOrdersRow.holds Try.pinned (OpenSpec.ofChange globOrdersWrong)

/- THE SECOND FORM. 'bulk': how many values and letters a reading holds, each counted each time it is reached (what is shared counts as often as it is met; a slice's spare places count too). A statement '..UptoSaid' is the law's where the arguments, and the package variables that the reading takes, are together of bulk at most 1048576: NARROWER than '..Said'. Prove '..Said' where nothing that the law and all that it calls make is longer than what came in: it says more and counts as full. Else prove '..UptoSaid'. A law counts once. -/
mutual
def uptoBulk {H : Type} : DataW H → Nat
  | .lit (.string bytes) => bytes.length + 1
  | .lit _ => 1
  | .nil => 1
  | .ptr d => uptoBulk d + 1
  | .slice elems spare => uptoBulkAll elems + uptoBulkAll spare + 1
  | .agg parts => uptoBulkAll parts + 1
  | .iface _ d => uptoBulk d + 1
  | .map entries => uptoBulkEntries entries + 1
  | .held _ => 1
def uptoBulkAll {H : Type} : List (DataW H) → Nat
  | [] => 0
  | d :: r => uptoBulk d + uptoBulkAll r
def uptoBulkEntries {H : Type} : List (Lit × DataW H) → Nat
  | [] => 0
  | x :: r => uptoBulkEntry x + uptoBulkEntries r
def uptoBulkEntry {H : Type} : Lit × DataW H → Nat
  | (.string bytes, d) => bytes.length + uptoBulk d + 1
  | (_, d) => uptoBulk d + 1
 end
def uptoSmall : (H : Type) → List (DataW H) → Bool := fun _ ds => decide (uptoBulkAll ds ≤ 1048576)
def OpenSpec.upto (s : _root_.Go.ChangeSpec) : _root_.Go.OpenSpec := { _root_.Go.OpenSpec.ofChange s with cond := some uptoSmall }

/-- 'fedchatlaw03.GlobChecks', WHERE WHAT IT READS IS OF BULK AT MOST 1048576: true; the input reads as it did. -/
def globChecksUptoRow : OpenClaim := { program := "ytbaghejoolemlaa", sum := "4141e1fdf1be98a5aa08e5b874712ac90c2ac4feb17891a1304eed1e95efb3e0", func := "fedchat/fedchatlaw03.GlobChecks", spec := "globChecks", apart := false, narrowed := true }
def GlobChecksUptoSaid : Prop := globChecksUptoRow.holds Try.pinned (OpenSpec.upto globChecksSpec)

/-- 'fedchatlaw03.GlobMatches', WHERE WHAT IT READS IS OF BULK AT MOST 1048576: true; the input reads as it did. -/
def globMatchesUptoRow : OpenClaim := { program := "ytbaghejoolemlaa", sum := "4141e1fdf1be98a5aa08e5b874712ac90c2ac4feb17891a1304eed1e95efb3e0", func := "fedchat/fedchatlaw03.GlobMatches", spec := "globMatches", apart := false, narrowed := true }
def GlobMatchesUptoSaid : Prop := globMatchesUptoRow.holds Try.pinned (OpenSpec.upto globMatchesSpec)

/-- 'fedchatlaw03.GlobFinds', WHERE WHAT IT READS IS OF BULK AT MOST 1048576: true; the input reads as it did. -/
def globFindsUptoRow : OpenClaim := { program := "ytbaghejoolemlaa", sum := "4141e1fdf1be98a5aa08e5b874712ac90c2ac4feb17891a1304eed1e95efb3e0", func := "fedchat/fedchatlaw03.GlobFinds", spec := "globFinds", apart := false, narrowed := true }
def GlobFindsUptoSaid : Prop := globFindsUptoRow.holds Try.pinned (OpenSpec.upto globFindsSpec)

/-- 'fedchatlaw03.GlobPlains', WHERE WHAT IT READS IS OF BULK AT MOST 1048576: true; the input reads as it did. -/
def globPlainsUptoRow : OpenClaim := { program := "ytbaghejoolemlaa", sum := "4141e1fdf1be98a5aa08e5b874712ac90c2ac4feb17891a1304eed1e95efb3e0", func := "fedchat/fedchatlaw03.GlobPlains", spec := "globPlains", apart := false, narrowed := true }
def GlobPlainsUptoSaid : Prop := globPlainsUptoRow.holds Try.pinned (OpenSpec.upto globPlainsSpec)

/-- 'fedchatlaw03.GlobCuts', WHERE WHAT IT READS IS OF BULK AT MOST 1048576: true; the input reads as it did. -/
def globCutsUptoRow : OpenClaim := { program := "ytbaghejoolemlaa", sum := "4141e1fdf1be98a5aa08e5b874712ac90c2ac4feb17891a1304eed1e95efb3e0", func := "fedchat/fedchatlaw03.GlobCuts", spec := "globCuts", apart := false, narrowed := true }
def GlobCutsUptoSaid : Prop := globCutsUptoRow.holds Try.pinned (OpenSpec.upto globCutsSpec)

/-- 'fedchatlaw03.GlobLeasts', WHERE WHAT IT READS IS OF BULK AT MOST 1048576: true; the input reads as it did. -/
def globLeastsUptoRow : OpenClaim := { program := "ytbaghejoolemlaa", sum := "4141e1fdf1be98a5aa08e5b874712ac90c2ac4feb17891a1304eed1e95efb3e0", func := "fedchat/fedchatlaw03.GlobLeasts", spec := "globLeasts", apart := false, narrowed := true }
def GlobLeastsUptoSaid : Prop := globLeastsUptoRow.holds Try.pinned (OpenSpec.upto globLeastsSpec)

/-- 'fedchatlaw03.GlobOrders', WHERE WHAT IT READS IS OF BULK AT MOST 1048576: true; the input reads as it did. -/
def globOrdersUptoRow : OpenClaim := { program := "ytbaghejoolemlaa", sum := "4141e1fdf1be98a5aa08e5b874712ac90c2ac4feb17891a1304eed1e95efb3e0", func := "fedchat/fedchatlaw03.GlobOrders", spec := "globOrders", apart := false, narrowed := true }
def GlobOrdersUptoSaid : Prop := globOrdersUptoRow.holds Try.pinned (OpenSpec.upto globOrdersSpec)

end Rows
end Go.Proofs.Ytbaghejoolemlaa
