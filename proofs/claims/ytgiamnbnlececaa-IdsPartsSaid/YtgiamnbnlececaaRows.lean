/-
  No cell of these rows narrows 'for every input' (looked for: loops, veiled, ifaces, maps, wideKeys, modest, calm, conditions, laid).
  DERIVED. THE GIVEN ROWS OF THIS SEAT. 6 by the template 'for every input the law returns true; each argument reads behind the call as it read before'; 0 by the template 'total and deterministic' (their statements: YtgiamnbnlececaaTotals.lean).
  GIVEN WITH THE SEED: the statements are not yours to turn. If you find one false, say at which input.
  Laid BY PROGRAM, IN A SANDBOX (cutbox-rows.mjs): the forced cells as the released guide's own fill.sh prints them over the translation e64867a499203c5a… (all of the seat's roots in one cut). By AI agents, Wed Nov 11 2026. No macro, syntax, notation, axiom, sorry.
-/
import Derived.Test.YtgiamnbnlececaaChecked
import GoSem.Claim
import GoSem.ClaimJoined
import GoSem.ClaimMapViews
import Derived.JoinedTies
import Derived.KernelRfl
namespace Go.Proofs.Ytgiamnbnlececaa
/- THE CELL 'sum', in the pinned program and in every row, IS THE sha256 OF THE DUMP (.gsa) THAT YtgiamnbnlececaaProg.lean LOADS. Nothing in Lean hashes anything: it is a label: what it is worth is what the hold of that sum in a sandbox is worth. -/
noncomputable def Try.pinned : Pinned := { name := "ytgiamnbnlececaa", sum := "e64867a499203c5a49a49860275cf5268e3c7ebc8cbf4b43ceb8170bd5402868", checked := Try.checked }
namespace Rows
def none {H : Type} : Left H := { results := [], args := [] }

/-- 'fedchatlaw02.IdsServers': WHATEVER THE INPUT: true; the input reads as it did. -/
def idsServersSpec : ChangeSpec := { name := "idsServers", fn := fun _ => fun
  | [d] => { results := [.lit (.bool true)], args := [d] }
  | _ => none }
def idsServersRow : OpenClaim := { program := "ytgiamnbnlececaa", sum := "e64867a499203c5a49a49860275cf5268e3c7ebc8cbf4b43ceb8170bd5402868", func := "fedchat/fedchatlaw02.IdsServers", spec := "idsServers", inPlace := ["internal/bytealg.IndexByteString", "internal/bytealg.IndexString"], unfollowed := true, recurses := true, named := ["internal/bytealg.MaxLen"], apart := false }
def IdsServersSaid : Prop := idsServersRow.holds Try.pinned (OpenSpec.ofChange idsServersSpec)

/-- ITS FALSE NEIGHBOUR: 'it returns false'. Refute it at one input. -/
def idsServersWrong : ChangeSpec := { name := "idsServers", fn := fun _ => fun
  | [d] => { results := [.lit (.bool false)], args := [d] }
  | _ => none }
def IdsServersWrongFalsely : Prop := idsServersRow.holds Try.pinned (OpenSpec.ofChange idsServersWrong)

/-- 'fedchatlaw02.IdsParses': WHATEVER THE INPUT: true; the input reads as it did. -/
def idsParsesSpec : ChangeSpec := { name := "idsParses", fn := fun _ => fun
  | [d] => { results := [.lit (.bool true)], args := [d] }
  | _ => none }
def idsParsesRow : OpenClaim := { program := "ytgiamnbnlececaa", sum := "e64867a499203c5a49a49860275cf5268e3c7ebc8cbf4b43ceb8170bd5402868", func := "fedchat/fedchatlaw02.IdsParses", spec := "idsParses", inPlace := ["internal/bytealg.IndexByteString", "internal/bytealg.IndexString"], unfollowed := true, recurses := true, named := ["internal/bytealg.MaxLen"], apart := false }
def IdsParsesSaid : Prop := idsParsesRow.holds Try.pinned (OpenSpec.ofChange idsParsesSpec)

/-- ITS FALSE NEIGHBOUR: 'it returns false'. Refute it at one input. -/
def idsParsesWrong : ChangeSpec := { name := "idsParses", fn := fun _ => fun
  | [d] => { results := [.lit (.bool false)], args := [d] }
  | _ => none }
def IdsParsesWrongFalsely : Prop := idsParsesRow.holds Try.pinned (OpenSpec.ofChange idsParsesWrong)

/-- 'fedchatlaw02.IdsMakes': WHATEVER THE INPUT: true; the input reads as it did. -/
def idsMakesSpec : ChangeSpec := { name := "idsMakes", fn := fun _ => fun
  | [d1, d2, d3] => { results := [.lit (.bool true)], args := [d1, d2, d3] }
  | _ => none }
def idsMakesRow : OpenClaim := { program := "ytgiamnbnlececaa", sum := "e64867a499203c5a49a49860275cf5268e3c7ebc8cbf4b43ceb8170bd5402868", func := "fedchat/fedchatlaw02.IdsMakes", spec := "idsMakes", inPlace := ["internal/bytealg.IndexByteString", "internal/bytealg.IndexString"], unfollowed := true, recurses := true, named := ["internal/bytealg.MaxLen"], apart := false }
def IdsMakesSaid : Prop := idsMakesRow.holds Try.pinned (OpenSpec.ofChange idsMakesSpec)

/-- ITS FALSE NEIGHBOUR: 'it returns false'. Refute it at one input. -/
def idsMakesWrong : ChangeSpec := { name := "idsMakes", fn := fun _ => fun
  | [d1, d2, d3] => { results := [.lit (.bool false)], args := [d1, d2, d3] }
  | _ => none }
def IdsMakesWrongFalsely : Prop := idsMakesRow.holds Try.pinned (OpenSpec.ofChange idsMakesWrong)

/-- 'fedchatlaw02.IdsLists': WHATEVER THE INPUT: true; the input reads as it did. -/
def idsListsSpec : ChangeSpec := { name := "idsLists", fn := fun _ => fun
  | [d1, d2] => { results := [.lit (.bool true)], args := [d1, d2] }
  | _ => none }
def idsListsRow : OpenClaim := { program := "ytgiamnbnlececaa", sum := "e64867a499203c5a49a49860275cf5268e3c7ebc8cbf4b43ceb8170bd5402868", func := "fedchat/fedchatlaw02.IdsLists", spec := "idsLists", inPlace := ["internal/bytealg.IndexByteString", "internal/bytealg.IndexString"], unfollowed := true, recurses := true, named := ["internal/bytealg.MaxLen"], apart := false }
def IdsListsSaid : Prop := idsListsRow.holds Try.pinned (OpenSpec.ofChange idsListsSpec)

/-- ITS FALSE NEIGHBOUR: 'it returns false'. Refute it at one input. -/
def idsListsWrong : ChangeSpec := { name := "idsLists", fn := fun _ => fun
  | [d1, d2] => { results := [.lit (.bool false)], args := [d1, d2] }
  | _ => none }
def IdsListsWrongFalsely : Prop := idsListsRow.holds Try.pinned (OpenSpec.ofChange idsListsWrong)

/-- 'fedchatlaw02.IdsParts': WHATEVER THE INPUT: true; the input reads as it did. -/
def idsPartsSpec : ChangeSpec := { name := "idsParts", fn := fun _ => fun
  | [d1, d2, d3] => { results := [.lit (.bool true)], args := [d1, d2, d3] }
  | _ => none }
def idsPartsRow : OpenClaim := { program := "ytgiamnbnlececaa", sum := "e64867a499203c5a49a49860275cf5268e3c7ebc8cbf4b43ceb8170bd5402868", func := "fedchat/fedchatlaw02.IdsParts", spec := "idsParts", inPlace := ["internal/bytealg.IndexByteString", "internal/bytealg.IndexString"], unfollowed := true, recurses := true, named := ["internal/bytealg.MaxLen"], apart := false }
def IdsPartsSaid : Prop := idsPartsRow.holds Try.pinned (OpenSpec.ofChange idsPartsSpec)

/-- ITS FALSE NEIGHBOUR: 'it returns false'. Refute it at one input. -/
def idsPartsWrong : ChangeSpec := { name := "idsParts", fn := fun _ => fun
  | [d1, d2, d3] => { results := [.lit (.bool false)], args := [d1, d2, d3] }
  | _ => none }
def IdsPartsWrongFalsely : Prop := idsPartsRow.holds Try.pinned (OpenSpec.ofChange idsPartsWrong)

/-- 'fedchatlaw02.IdsSets': WHATEVER THE INPUT: true; the input reads as it did. -/
def idsSetsSpec : ChangeSpec := { name := "idsSets", fn := fun _ => fun
  | [d1, d2] => { results := [.lit (.bool true)], args := [d1, d2] }
  | _ => none }
def idsSetsRow : OpenClaim := { program := "ytgiamnbnlececaa", sum := "e64867a499203c5a49a49860275cf5268e3c7ebc8cbf4b43ceb8170bd5402868", func := "fedchat/fedchatlaw02.IdsSets", spec := "idsSets", inPlace := ["internal/bytealg.IndexByteString", "internal/bytealg.IndexString"], unfollowed := true, recurses := true, named := ["internal/bytealg.MaxLen"], apart := false }
def IdsSetsSaid : Prop := idsSetsRow.holds Try.pinned (OpenSpec.ofChange idsSetsSpec)

/-- ITS FALSE NEIGHBOUR: 'it returns false'. Refute it at one input. -/
def idsSetsWrong : ChangeSpec := { name := "idsSets", fn := fun _ => fun
  | [d1, d2] => { results := [.lit (.bool false)], args := [d1, d2] }
  | _ => none }
def IdsSetsWrongFalsely : Prop := idsSetsRow.holds Try.pinned (OpenSpec.ofChange idsSetsWrong)

/- THE SECOND FORM. 'bulk': how many values and letters a reading holds, each counted each time it is reached (what is shared counts as often as it is met; a slice's spare places count too). A statement '..UptoSaid' is the law's where the arguments, and the package variables that the reading takes, are together of bulk at most 1048576: NARROWER than '..Said'. Prove '..Said' where nothing that the law and all that it calls make is longer than what came in: it says more and counts as full. Else prove '..UptoSaid'. A law counts once. -/
mutual
def uptoBulk {H : Type} : DataW H → Nat
  | .lit (.string bytes) => bytes.length + 1
  | .lit _ => 1
  | .nil => 1
  | .ptr d => uptoBulk d + 1
  | .slice elems spare => uptoBulkAll elems + uptoBulkAll spare + 1
  | .agg parts => uptoBulkAll parts + 1
  | .iface _ d => uptoBulk d + 1
  | .map entries => uptoBulkEntries entries + 1
  | .held _ => 1
def uptoBulkAll {H : Type} : List (DataW H) → Nat
  | [] => 0
  | d :: r => uptoBulk d + uptoBulkAll r
def uptoBulkEntries {H : Type} : List (Lit × DataW H) → Nat
  | [] => 0
  | x :: r => uptoBulkEntry x + uptoBulkEntries r
def uptoBulkEntry {H : Type} : Lit × DataW H → Nat
  | (.string bytes, d) => bytes.length + uptoBulk d + 1
  | (_, d) => uptoBulk d + 1
 end
def uptoSmall : (H : Type) → List (DataW H) → Bool := fun _ ds => decide (uptoBulkAll ds ≤ 1048576)
def OpenSpec.upto (s : _root_.Go.ChangeSpec) : _root_.Go.OpenSpec := { _root_.Go.OpenSpec.ofChange s with cond := some uptoSmall }

/-- 'fedchatlaw02.IdsServers', WHERE WHAT IT READS IS OF BULK AT MOST 1048576: true; the input reads as it did. -/
def idsServersUptoRow : OpenClaim := { program := "ytgiamnbnlececaa", sum := "e64867a499203c5a49a49860275cf5268e3c7ebc8cbf4b43ceb8170bd5402868", func := "fedchat/fedchatlaw02.IdsServers", spec := "idsServers", inPlace := ["internal/bytealg.IndexByteString", "internal/bytealg.IndexString"], unfollowed := true, recurses := true, named := ["internal/bytealg.MaxLen"], apart := false, narrowed := true }
def IdsServersUptoSaid : Prop := idsServersUptoRow.holds Try.pinned (OpenSpec.upto idsServersSpec)

/-- 'fedchatlaw02.IdsParses', WHERE WHAT IT READS IS OF BULK AT MOST 1048576: true; the input reads as it did. -/
def idsParsesUptoRow : OpenClaim := { program := "ytgiamnbnlececaa", sum := "e64867a499203c5a49a49860275cf5268e3c7ebc8cbf4b43ceb8170bd5402868", func := "fedchat/fedchatlaw02.IdsParses", spec := "idsParses", inPlace := ["internal/bytealg.IndexByteString", "internal/bytealg.IndexString"], unfollowed := true, recurses := true, named := ["internal/bytealg.MaxLen"], apart := false, narrowed := true }
def IdsParsesUptoSaid : Prop := idsParsesUptoRow.holds Try.pinned (OpenSpec.upto idsParsesSpec)

/-- 'fedchatlaw02.IdsMakes', WHERE WHAT IT READS IS OF BULK AT MOST 1048576: true; the input reads as it did. -/
def idsMakesUptoRow : OpenClaim := { program := "ytgiamnbnlececaa", sum := "e64867a499203c5a49a49860275cf5268e3c7ebc8cbf4b43ceb8170bd5402868", func := "fedchat/fedchatlaw02.IdsMakes", spec := "idsMakes", inPlace := ["internal/bytealg.IndexByteString", "internal/bytealg.IndexString"], unfollowed := true, recurses := true, named := ["internal/bytealg.MaxLen"], apart := false, narrowed := true }
def IdsMakesUptoSaid : Prop := idsMakesUptoRow.holds Try.pinned (OpenSpec.upto idsMakesSpec)

/-- 'fedchatlaw02.IdsLists', WHERE WHAT IT READS IS OF BULK AT MOST 1048576: true; the input reads as it did. -/
def idsListsUptoRow : OpenClaim := { program := "ytgiamnbnlececaa", sum := "e64867a499203c5a49a49860275cf5268e3c7ebc8cbf4b43ceb8170bd5402868", func := "fedchat/fedchatlaw02.IdsLists", spec := "idsLists", inPlace := ["internal/bytealg.IndexByteString", "internal/bytealg.IndexString"], unfollowed := true, recurses := true, named := ["internal/bytealg.MaxLen"], apart := false, narrowed := true }
def IdsListsUptoSaid : Prop := idsListsUptoRow.holds Try.pinned (OpenSpec.upto idsListsSpec)

/-- 'fedchatlaw02.IdsParts', WHERE WHAT IT READS IS OF BULK AT MOST 1048576: true; the input reads as it did. -/
def idsPartsUptoRow : OpenClaim := { program := "ytgiamnbnlececaa", sum := "e64867a499203c5a49a49860275cf5268e3c7ebc8cbf4b43ceb8170bd5402868", func := "fedchat/fedchatlaw02.IdsParts", spec := "idsParts", inPlace := ["internal/bytealg.IndexByteString", "internal/bytealg.IndexString"], unfollowed := true, recurses := true, named := ["internal/bytealg.MaxLen"], apart := false, narrowed := true }
def IdsPartsUptoSaid : Prop := idsPartsUptoRow.holds Try.pinned (OpenSpec.upto idsPartsSpec)

/-- 'fedchatlaw02.IdsSets', WHERE WHAT IT READS IS OF BULK AT MOST 1048576: true; the input reads as it did. -/
def idsSetsUptoRow : OpenClaim := { program := "ytgiamnbnlececaa", sum := "e64867a499203c5a49a49860275cf5268e3c7ebc8cbf4b43ceb8170bd5402868", func := "fedchat/fedchatlaw02.IdsSets", spec := "idsSets", inPlace := ["internal/bytealg.IndexByteString", "internal/bytealg.IndexString"], unfollowed := true, recurses := true, named := ["internal/bytealg.MaxLen"], apart := false, narrowed := true }
def IdsSetsUptoSaid : Prop := idsSetsUptoRow.holds Try.pinned (OpenSpec.upto idsSetsSpec)

end Rows
end Go.Proofs.Ytgiamnbnlececaa
