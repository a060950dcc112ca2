/-
  No cell of these rows narrows 'for every input' (looked for: loops, veiled, ifaces, maps, wideKeys, modest, calm, conditions, laid).
  DERIVED. THE GIVEN ROWS OF THIS SEAT. 6 by the template 'for every input the law returns true; each argument reads behind the call as it read before'; 0 by the template 'total and deterministic' (their statements: YtkcceobncjoodaaTotals.lean).
  GIVEN WITH THE SEED: the statements are not yours to turn. If you find one false, say at which input.
  Laid BY PROGRAM, IN A SANDBOX (cutbox-rows.mjs): the forced cells as the released guide's own fill.sh prints them over the translation 1903095772be8d33… (all of the seat's roots in one cut). By AI agents, Wed Nov 11 2026. No macro, syntax, notation, axiom, sorry.
-/
import Derived.Test.YtkcceobncjoodaaChecked
import GoSem.Claim
import GoSem.ClaimJoined
import GoSem.ClaimMapViews
import Derived.JoinedTies
import Derived.KernelRfl
namespace Go.Proofs.Ytkcceobncjoodaa
/- THE CELL 'sum', in the pinned program and in every row, IS THE sha256 OF THE DUMP (.gsa) THAT YtkcceobncjoodaaProg.lean LOADS. Nothing in Lean hashes anything: it is a label: what it is worth is what the hold of that sum in a sandbox is worth. -/
noncomputable def Try.pinned : Pinned := { name := "ytkcceobncjoodaa", sum := "1903095772be8d332f95b7f3141b29a75eae9024632cc1dcceb9224af7372580", checked := Try.checked }
namespace Rows
def none {H : Type} : Left H := { results := [], args := [] }

/-- 'fedchatlaw51.BridgeUsers': WHATEVER THE INPUT: true; the input reads as it did. -/
def bridgeUsersSpec : ChangeSpec := { name := "bridgeUsers", fn := fun _ => fun
  | [d] => { results := [.lit (.bool true)], args := [d] }
  | _ => none }
def bridgeUsersRow : OpenClaim := { program := "ytkcceobncjoodaa", sum := "1903095772be8d332f95b7f3141b29a75eae9024632cc1dcceb9224af7372580", func := "fedchat/fedchatlaw51.BridgeUsers", spec := "bridgeUsers", inPlace := ["internal/bytealg.IndexByteString", "internal/bytealg.IndexString", "slices.overlaps[fedchat/api.Ghost]"], unfollowed := true, recurses := true, named := ["internal/bytealg.MaxLen"], plainKeys := false, apart := false }
def BridgeUsersSaid : Prop := bridgeUsersRow.holds Try.pinned (OpenSpec.ofChange bridgeUsersSpec)

/-- ITS FALSE NEIGHBOUR: 'it returns false'. Refute it at one input. -/
def bridgeUsersWrong : ChangeSpec := { name := "bridgeUsers", fn := fun _ => fun
  | [d] => { results := [.lit (.bool false)], args := [d] }
  | _ => none }
def BridgeUsersWrongFalsely : Prop := bridgeUsersRow.holds Try.pinned (OpenSpec.ofChange bridgeUsersWrong)

/-- 'fedchatlaw51.BridgeBacks': WHATEVER THE INPUT: true; the input reads as it did. -/
def bridgeBacksSpec : ChangeSpec := { name := "bridgeBacks", fn := fun _ => fun
  | [d] => { results := [.lit (.bool true)], args := [d] }
  | _ => none }
def bridgeBacksRow : OpenClaim := { program := "ytkcceobncjoodaa", sum := "1903095772be8d332f95b7f3141b29a75eae9024632cc1dcceb9224af7372580", func := "fedchat/fedchatlaw51.BridgeBacks", spec := "bridgeBacks", inPlace := ["internal/bytealg.IndexByteString", "internal/bytealg.IndexString", "slices.overlaps[fedchat/api.Ghost]"], unfollowed := true, recurses := true, named := ["internal/bytealg.MaxLen"], plainKeys := false, apart := false }
def BridgeBacksSaid : Prop := bridgeBacksRow.holds Try.pinned (OpenSpec.ofChange bridgeBacksSpec)

/-- ITS FALSE NEIGHBOUR: 'it returns false'. Refute it at one input. -/
def bridgeBacksWrong : ChangeSpec := { name := "bridgeBacks", fn := fun _ => fun
  | [d] => { results := [.lit (.bool false)], args := [d] }
  | _ => none }
def BridgeBacksWrongFalsely : Prop := bridgeBacksRow.holds Try.pinned (OpenSpec.ofChange bridgeBacksWrong)

/-- 'fedchatlaw51.BridgeBinds': WHATEVER THE INPUT: true; the input reads as it did. -/
def bridgeBindsSpec : ChangeSpec := { name := "bridgeBinds", fn := fun _ => fun
  | [d1, d2] => { results := [.lit (.bool true)], args := [d1, d2] }
  | _ => none }
def bridgeBindsRow : OpenClaim := { program := "ytkcceobncjoodaa", sum := "1903095772be8d332f95b7f3141b29a75eae9024632cc1dcceb9224af7372580", func := "fedchat/fedchatlaw51.BridgeBinds", spec := "bridgeBinds", inPlace := ["internal/bytealg.IndexByteString", "internal/bytealg.IndexString", "slices.overlaps[fedchat/api.Ghost]"], unfollowed := true, recurses := true, named := ["internal/bytealg.MaxLen"], plainKeys := false, apart := false }
def BridgeBindsSaid : Prop := bridgeBindsRow.holds Try.pinned (OpenSpec.ofChange bridgeBindsSpec)

/-- ITS FALSE NEIGHBOUR: 'it returns false'. Refute it at one input. -/
def bridgeBindsWrong : ChangeSpec := { name := "bridgeBinds", fn := fun _ => fun
  | [d1, d2] => { results := [.lit (.bool false)], args := [d1, d2] }
  | _ => none }
def BridgeBindsWrongFalsely : Prop := bridgeBindsRow.holds Try.pinned (OpenSpec.ofChange bridgeBindsWrong)

/-- 'fedchatlaw51.BridgeRestores': WHATEVER THE INPUT: true; the input reads as it did. -/
def bridgeRestoresSpec : ChangeSpec := { name := "bridgeRestores", fn := fun _ => fun
  | [d] => { results := [.lit (.bool true)], args := [d] }
  | _ => none }
def bridgeRestoresRow : OpenClaim := { program := "ytkcceobncjoodaa", sum := "1903095772be8d332f95b7f3141b29a75eae9024632cc1dcceb9224af7372580", func := "fedchat/fedchatlaw51.BridgeRestores", spec := "bridgeRestores", inPlace := ["internal/bytealg.IndexByteString", "internal/bytealg.IndexString", "slices.overlaps[fedchat/api.Ghost]"], unfollowed := true, recurses := true, named := ["internal/bytealg.MaxLen"], plainKeys := false, apart := false }
def BridgeRestoresSaid : Prop := bridgeRestoresRow.holds Try.pinned (OpenSpec.ofChange bridgeRestoresSpec)

/-- ITS FALSE NEIGHBOUR: 'it returns false'. Refute it at one input. -/
def bridgeRestoresWrong : ChangeSpec := { name := "bridgeRestores", fn := fun _ => fun
  | [d] => { results := [.lit (.bool false)], args := [d] }
  | _ => none }
def BridgeRestoresWrongFalsely : Prop := bridgeRestoresRow.holds Try.pinned (OpenSpec.ofChange bridgeRestoresWrong)

/-- 'fedchatlaw51.BridgeApart': WHATEVER THE INPUT: true; the input reads as it did. -/
def bridgeApartSpec : ChangeSpec := { name := "bridgeApart", fn := fun _ => fun
  | [d1, d2] => { results := [.lit (.bool true)], args := [d1, d2] }
  | _ => none }
def bridgeApartRow : OpenClaim := { program := "ytkcceobncjoodaa", sum := "1903095772be8d332f95b7f3141b29a75eae9024632cc1dcceb9224af7372580", func := "fedchat/fedchatlaw51.BridgeApart", spec := "bridgeApart", inPlace := ["internal/bytealg.IndexByteString", "internal/bytealg.IndexString", "slices.overlaps[fedchat/api.Ghost]"], unfollowed := true, recurses := true, named := ["internal/bytealg.MaxLen"], plainKeys := false, apart := false }
def BridgeApartSaid : Prop := bridgeApartRow.holds Try.pinned (OpenSpec.ofChange bridgeApartSpec)

/-- ITS FALSE NEIGHBOUR: 'it returns false'. Refute it at one input. -/
def bridgeApartWrong : ChangeSpec := { name := "bridgeApart", fn := fun _ => fun
  | [d1, d2] => { results := [.lit (.bool false)], args := [d1, d2] }
  | _ => none }
def BridgeApartWrongFalsely : Prop := bridgeApartRow.holds Try.pinned (OpenSpec.ofChange bridgeApartWrong)

/-- 'fedchatlaw51.BridgeAgain': WHATEVER THE INPUT: true; the input reads as it did. -/
def bridgeAgainSpec : ChangeSpec := { name := "bridgeAgain", fn := fun _ => fun
  | [d1, d2, d3] => { results := [.lit (.bool true)], args := [d1, d2, d3] }
  | _ => none }
def bridgeAgainRow : OpenClaim := { program := "ytkcceobncjoodaa", sum := "1903095772be8d332f95b7f3141b29a75eae9024632cc1dcceb9224af7372580", func := "fedchat/fedchatlaw51.BridgeAgain", spec := "bridgeAgain", inPlace := ["internal/bytealg.IndexByteString", "internal/bytealg.IndexString", "slices.overlaps[fedchat/api.Ghost]"], unfollowed := true, recurses := true, named := ["internal/bytealg.MaxLen"], plainKeys := false, apart := false }
def BridgeAgainSaid : Prop := bridgeAgainRow.holds Try.pinned (OpenSpec.ofChange bridgeAgainSpec)

/-- ITS FALSE NEIGHBOUR: 'it returns false'. Refute it at one input. -/
def bridgeAgainWrong : ChangeSpec := { name := "bridgeAgain", fn := fun _ => fun
  | [d1, d2, d3] => { results := [.lit (.bool false)], args := [d1, d2, d3] }
  | _ => none }
def BridgeAgainWrongFalsely : Prop := bridgeAgainRow.holds Try.pinned (OpenSpec.ofChange bridgeAgainWrong)

/- THE SECOND FORM. 'bulk': how many values and letters a reading holds, each counted each time it is reached (what is shared counts as often as it is met; a slice's spare places count too). A statement '..UptoSaid' is the law's where the arguments, and the package variables that the reading takes, are together of bulk at most 1048576: NARROWER than '..Said'. Prove '..Said' where nothing that the law and all that it calls make is longer than what came in: it says more and counts as full. Else prove '..UptoSaid'. A law counts once. -/
mutual
def uptoBulk {H : Type} : DataW H → Nat
  | .lit (.string bytes) => bytes.length + 1
  | .lit _ => 1
  | .nil => 1
  | .ptr d => uptoBulk d + 1
  | .slice elems spare => uptoBulkAll elems + uptoBulkAll spare + 1
  | .agg parts => uptoBulkAll parts + 1
  | .iface _ d => uptoBulk d + 1
  | .map entries => uptoBulkEntries entries + 1
  | .held _ => 1
def uptoBulkAll {H : Type} : List (DataW H) → Nat
  | [] => 0
  | d :: r => uptoBulk d + uptoBulkAll r
def uptoBulkEntries {H : Type} : List (Lit × DataW H) → Nat
  | [] => 0
  | x :: r => uptoBulkEntry x + uptoBulkEntries r
def uptoBulkEntry {H : Type} : Lit × DataW H → Nat
  | (.string bytes, d) => bytes.length + uptoBulk d + 1
  | (_, d) => uptoBulk d + 1
 end
def uptoSmall : (H : Type) → List (DataW H) → Bool := fun _ ds => decide (uptoBulkAll ds ≤ 1048576)
def OpenSpec.upto (s : _root_.Go.ChangeSpec) : _root_.Go.OpenSpec := { _root_.Go.OpenSpec.ofChange s with cond := some uptoSmall }

/-- 'fedchatlaw51.BridgeUsers', WHERE WHAT IT READS IS OF BULK AT MOST 1048576: true; the input reads as it did. -/
def bridgeUsersUptoRow : OpenClaim := { program := "ytkcceobncjoodaa", sum := "1903095772be8d332f95b7f3141b29a75eae9024632cc1dcceb9224af7372580", func := "fedchat/fedchatlaw51.BridgeUsers", spec := "bridgeUsers", inPlace := ["internal/bytealg.IndexByteString", "internal/bytealg.IndexString", "slices.overlaps[fedchat/api.Ghost]"], unfollowed := true, recurses := true, named := ["internal/bytealg.MaxLen"], plainKeys := false, apart := false, narrowed := true }
def BridgeUsersUptoSaid : Prop := bridgeUsersUptoRow.holds Try.pinned (OpenSpec.upto bridgeUsersSpec)

/-- 'fedchatlaw51.BridgeBacks', WHERE WHAT IT READS IS OF BULK AT MOST 1048576: true; the input reads as it did. -/
def bridgeBacksUptoRow : OpenClaim := { program := "ytkcceobncjoodaa", sum := "1903095772be8d332f95b7f3141b29a75eae9024632cc1dcceb9224af7372580", func := "fedchat/fedchatlaw51.BridgeBacks", spec := "bridgeBacks", inPlace := ["internal/bytealg.IndexByteString", "internal/bytealg.IndexString", "slices.overlaps[fedchat/api.Ghost]"], unfollowed := true, recurses := true, named := ["internal/bytealg.MaxLen"], plainKeys := false, apart := false, narrowed := true }
def BridgeBacksUptoSaid : Prop := bridgeBacksUptoRow.holds Try.pinned (OpenSpec.upto bridgeBacksSpec)

/-- 'fedchatlaw51.BridgeBinds', WHERE WHAT IT READS IS OF BULK AT MOST 1048576: true; the input reads as it did. -/
def bridgeBindsUptoRow : OpenClaim := { program := "ytkcceobncjoodaa", sum := "1903095772be8d332f95b7f3141b29a75eae9024632cc1dcceb9224af7372580", func := "fedchat/fedchatlaw51.BridgeBinds", spec := "bridgeBinds", inPlace := ["internal/bytealg.IndexByteString", "internal/bytealg.IndexString", "slices.overlaps[fedchat/api.Ghost]"], unfollowed := true, recurses := true, named := ["internal/bytealg.MaxLen"], plainKeys := false, apart := false, narrowed := true }
def BridgeBindsUptoSaid : Prop := bridgeBindsUptoRow.holds Try.pinned (OpenSpec.upto bridgeBindsSpec)

/-- 'fedchatlaw51.BridgeRestores', WHERE WHAT IT READS IS OF BULK AT MOST 1048576: true; the input reads as it did. -/
def bridgeRestoresUptoRow : OpenClaim := { program := "ytkcceobncjoodaa", sum := "1903095772be8d332f95b7f3141b29a75eae9024632cc1dcceb9224af7372580", func := "fedchat/fedchatlaw51.BridgeRestores", spec := "bridgeRestores", inPlace := ["internal/bytealg.IndexByteString", "internal/bytealg.IndexString", "slices.overlaps[fedchat/api.Ghost]"], unfollowed := true, recurses := true, named := ["internal/bytealg.MaxLen"], plainKeys := false, apart := false, narrowed := true }
def BridgeRestoresUptoSaid : Prop := bridgeRestoresUptoRow.holds Try.pinned (OpenSpec.upto bridgeRestoresSpec)

/-- 'fedchatlaw51.BridgeApart', WHERE WHAT IT READS IS OF BULK AT MOST 1048576: true; the input reads as it did. -/
def bridgeApartUptoRow : OpenClaim := { program := "ytkcceobncjoodaa", sum := "1903095772be8d332f95b7f3141b29a75eae9024632cc1dcceb9224af7372580", func := "fedchat/fedchatlaw51.BridgeApart", spec := "bridgeApart", inPlace := ["internal/bytealg.IndexByteString", "internal/bytealg.IndexString", "slices.overlaps[fedchat/api.Ghost]"], unfollowed := true, recurses := true, named := ["internal/bytealg.MaxLen"], plainKeys := false, apart := false, narrowed := true }
def BridgeApartUptoSaid : Prop := bridgeApartUptoRow.holds Try.pinned (OpenSpec.upto bridgeApartSpec)

/-- 'fedchatlaw51.BridgeAgain', WHERE WHAT IT READS IS OF BULK AT MOST 1048576: true; the input reads as it did. -/
def bridgeAgainUptoRow : OpenClaim := { program := "ytkcceobncjoodaa", sum := "1903095772be8d332f95b7f3141b29a75eae9024632cc1dcceb9224af7372580", func := "fedchat/fedchatlaw51.BridgeAgain", spec := "bridgeAgain", inPlace := ["internal/bytealg.IndexByteString", "internal/bytealg.IndexString", "slices.overlaps[fedchat/api.Ghost]"], unfollowed := true, recurses := true, named := ["internal/bytealg.MaxLen"], plainKeys := false, apart := false, narrowed := true }
def BridgeAgainUptoSaid : Prop := bridgeAgainUptoRow.holds Try.pinned (OpenSpec.upto bridgeAgainSpec)

end Rows
end Go.Proofs.Ytkcceobncjoodaa
