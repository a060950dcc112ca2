/-
  No cell of these rows narrows 'for every input' (looked for: loops, veiled, ifaces, maps, wideKeys, modest, calm, conditions, laid).
  DERIVED. THE GIVEN ROWS OF THIS SEAT. 6 by the template 'for every input the law returns true; each argument reads behind the call as it read before'; 0 by the template 'total and deterministic' (their statements: YtjifohepbmaebaaTotals.lean).
  GIVEN WITH THE SEED: the statements are not yours to turn. If you find one false, say at which input.
  Laid BY PROGRAM, IN A SANDBOX (cutbox-rows.mjs): the forced cells as the released guide's own fill.sh prints them over the translation 7458b69d5917350c… (all of the seat's roots in one cut). By AI agents, Wed Nov 11 2026. No macro, syntax, notation, axiom, sorry.
-/
import Derived.Test.YtjifohepbmaebaaChecked
import GoSem.Claim
import GoSem.ClaimJoined
import GoSem.ClaimMapViews
import Derived.JoinedTies
import Derived.KernelRfl
namespace Go.Proofs.Ytjifohepbmaebaa
/- THE CELL 'sum', in the pinned program and in every row, IS THE sha256 OF THE DUMP (.gsa) THAT YtjifohepbmaebaaProg.lean LOADS. Nothing in Lean hashes anything: it is a label: what it is worth is what the hold of that sum in a sandbox is worth. -/
noncomputable def Try.pinned : Pinned := { name := "ytjifohepbmaebaa", sum := "7458b69d5917350c8a2cda63e0f4490b38b3929317e4a4bc7ae6eae1277968fc", checked := Try.checked }
namespace Rows
def none {H : Type} : Left H := { results := [], args := [] }

/-- 'fedchatlaw38.TypingChecks': WHATEVER THE INPUT: true; the input reads as it did. -/
def typingChecksSpec : ChangeSpec := { name := "typingChecks", fn := fun _ => fun
  | [d] => { results := [.lit (.bool true)], args := [d] }
  | _ => none }
def typingChecksRow : OpenClaim := { program := "ytjifohepbmaebaa", sum := "7458b69d5917350c8a2cda63e0f4490b38b3929317e4a4bc7ae6eae1277968fc", func := "fedchat/fedchatlaw38.TypingChecks", spec := "typingChecks", inPlace := ["internal/bytealg.IndexByteString", "internal/bytealg.IndexString", "slices.overlaps[fedchat/api.Typing]"], unfollowed := true, recurses := true, named := ["internal/bytealg.MaxLen"], apart := false }
def TypingChecksSaid : Prop := typingChecksRow.holds Try.pinned (OpenSpec.ofChange typingChecksSpec)

/-- ITS FALSE NEIGHBOUR: 'it returns false'. Refute it at one input. -/
def typingChecksWrong : ChangeSpec := { name := "typingChecks", fn := fun _ => fun
  | [d] => { results := [.lit (.bool false)], args := [d] }
  | _ => none }
def TypingChecksWrongFalsely : Prop := typingChecksRow.holds Try.pinned (OpenSpec.ofChange typingChecksWrong)

/-- 'fedchatlaw38.TypingStarts': WHATEVER THE INPUT: true; the input reads as it did. -/
def typingStartsSpec : ChangeSpec := { name := "typingStarts", fn := fun _ => fun
  | [d1, d2] => { results := [.lit (.bool true)], args := [d1, d2] }
  | _ => none }
def typingStartsRow : OpenClaim := { program := "ytjifohepbmaebaa", sum := "7458b69d5917350c8a2cda63e0f4490b38b3929317e4a4bc7ae6eae1277968fc", func := "fedchat/fedchatlaw38.TypingStarts", spec := "typingStarts", inPlace := ["internal/bytealg.IndexByteString", "internal/bytealg.IndexString", "slices.overlaps[fedchat/api.Typing]"], unfollowed := true, recurses := true, named := ["internal/bytealg.MaxLen"], apart := false }
def TypingStartsSaid : Prop := typingStartsRow.holds Try.pinned (OpenSpec.ofChange typingStartsSpec)

/-- ITS FALSE NEIGHBOUR: 'it returns false'. Refute it at one input. -/
def typingStartsWrong : ChangeSpec := { name := "typingStarts", fn := fun _ => fun
  | [d1, d2] => { results := [.lit (.bool false)], args := [d1, d2] }
  | _ => none }
def TypingStartsWrongFalsely : Prop := typingStartsRow.holds Try.pinned (OpenSpec.ofChange typingStartsWrong)

/-- 'fedchatlaw38.TypingStops': WHATEVER THE INPUT: true; the input reads as it did. -/
def typingStopsSpec : ChangeSpec := { name := "typingStops", fn := fun _ => fun
  | [d1, d2, d3] => { results := [.lit (.bool true)], args := [d1, d2, d3] }
  | _ => none }
def typingStopsRow : OpenClaim := { program := "ytjifohepbmaebaa", sum := "7458b69d5917350c8a2cda63e0f4490b38b3929317e4a4bc7ae6eae1277968fc", func := "fedchat/fedchatlaw38.TypingStops", spec := "typingStops", inPlace := ["internal/bytealg.IndexByteString", "internal/bytealg.IndexString", "slices.overlaps[fedchat/api.Typing]"], unfollowed := true, recurses := true, named := ["internal/bytealg.MaxLen"], apart := false }
def TypingStopsSaid : Prop := typingStopsRow.holds Try.pinned (OpenSpec.ofChange typingStopsSpec)

/-- ITS FALSE NEIGHBOUR: 'it returns false'. Refute it at one input. -/
def typingStopsWrong : ChangeSpec := { name := "typingStops", fn := fun _ => fun
  | [d1, d2, d3] => { results := [.lit (.bool false)], args := [d1, d2, d3] }
  | _ => none }
def TypingStopsWrongFalsely : Prop := typingStopsRow.holds Try.pinned (OpenSpec.ofChange typingStopsWrong)

/-- 'fedchatlaw38.TypingStays': WHATEVER THE INPUT: true; the input reads as it did. -/
def typingStaysSpec : ChangeSpec := { name := "typingStays", fn := fun _ => fun
  | [d1, d2] => { results := [.lit (.bool true)], args := [d1, d2] }
  | _ => none }
def typingStaysRow : OpenClaim := { program := "ytjifohepbmaebaa", sum := "7458b69d5917350c8a2cda63e0f4490b38b3929317e4a4bc7ae6eae1277968fc", func := "fedchat/fedchatlaw38.TypingStays", spec := "typingStays", inPlace := ["internal/bytealg.IndexByteString", "internal/bytealg.IndexString", "slices.overlaps[fedchat/api.Typing]"], unfollowed := true, recurses := true, named := ["internal/bytealg.MaxLen"], apart := false }
def TypingStaysSaid : Prop := typingStaysRow.holds Try.pinned (OpenSpec.ofChange typingStaysSpec)

/-- ITS FALSE NEIGHBOUR: 'it returns false'. Refute it at one input. -/
def typingStaysWrong : ChangeSpec := { name := "typingStays", fn := fun _ => fun
  | [d1, d2] => { results := [.lit (.bool false)], args := [d1, d2] }
  | _ => none }
def TypingStaysWrongFalsely : Prop := typingStaysRow.holds Try.pinned (OpenSpec.ofChange typingStaysWrong)

/-- 'fedchatlaw38.TypingLasts': WHATEVER THE INPUT: true; the input reads as it did. -/
def typingLastsSpec : ChangeSpec := { name := "typingLasts", fn := fun _ => fun
  | [d1, d2, d3] => { results := [.lit (.bool true)], args := [d1, d2, d3] }
  | _ => none }
def typingLastsRow : OpenClaim := { program := "ytjifohepbmaebaa", sum := "7458b69d5917350c8a2cda63e0f4490b38b3929317e4a4bc7ae6eae1277968fc", func := "fedchat/fedchatlaw38.TypingLasts", spec := "typingLasts", inPlace := ["internal/bytealg.IndexByteString", "internal/bytealg.IndexString", "slices.overlaps[fedchat/api.Typing]"], unfollowed := true, recurses := true, named := ["internal/bytealg.MaxLen"], apart := false }
def TypingLastsSaid : Prop := typingLastsRow.holds Try.pinned (OpenSpec.ofChange typingLastsSpec)

/-- ITS FALSE NEIGHBOUR: 'it returns false'. Refute it at one input. -/
def typingLastsWrong : ChangeSpec := { name := "typingLasts", fn := fun _ => fun
  | [d1, d2, d3] => { results := [.lit (.bool false)], args := [d1, d2, d3] }
  | _ => none }
def TypingLastsWrongFalsely : Prop := typingLastsRow.holds Try.pinned (OpenSpec.ofChange typingLastsWrong)

/-- 'fedchatlaw38.TypingCleans': WHATEVER THE INPUT: true; the input reads as it did. -/
def typingCleansSpec : ChangeSpec := { name := "typingCleans", fn := fun _ => fun
  | [d1, d2, d3] => { results := [.lit (.bool true)], args := [d1, d2, d3] }
  | _ => none }
def typingCleansRow : OpenClaim := { program := "ytjifohepbmaebaa", sum := "7458b69d5917350c8a2cda63e0f4490b38b3929317e4a4bc7ae6eae1277968fc", func := "fedchat/fedchatlaw38.TypingCleans", spec := "typingCleans", inPlace := ["internal/bytealg.IndexByteString", "internal/bytealg.IndexString", "slices.overlaps[fedchat/api.Typing]"], unfollowed := true, recurses := true, named := ["internal/bytealg.MaxLen"], apart := false }
def TypingCleansSaid : Prop := typingCleansRow.holds Try.pinned (OpenSpec.ofChange typingCleansSpec)

/-- ITS FALSE NEIGHBOUR: 'it returns false'. Refute it at one input. -/
def typingCleansWrong : ChangeSpec := { name := "typingCleans", fn := fun _ => fun
  | [d1, d2, d3] => { results := [.lit (.bool false)], args := [d1, d2, d3] }
  | _ => none }
def TypingCleansWrongFalsely : Prop := typingCleansRow.holds Try.pinned (OpenSpec.ofChange typingCleansWrong)

/- THE SECOND FORM. 'bulk': how many values and letters a reading holds, each counted each time it is reached (what is shared counts as often as it is met; a slice's spare places count too). A statement '..UptoSaid' is the law's where the arguments, and the package variables that the reading takes, are together of bulk at most 1048576: NARROWER than '..Said'. Prove '..Said' where nothing that the law and all that it calls make is longer than what came in: it says more and counts as full. Else prove '..UptoSaid'. A law counts once. -/
mutual
def uptoBulk {H : Type} : DataW H → Nat
  | .lit (.string bytes) => bytes.length + 1
  | .lit _ => 1
  | .nil => 1
  | .ptr d => uptoBulk d + 1
  | .slice elems spare => uptoBulkAll elems + uptoBulkAll spare + 1
  | .agg parts => uptoBulkAll parts + 1
  | .iface _ d => uptoBulk d + 1
  | .map entries => uptoBulkEntries entries + 1
  | .held _ => 1
def uptoBulkAll {H : Type} : List (DataW H) → Nat
  | [] => 0
  | d :: r => uptoBulk d + uptoBulkAll r
def uptoBulkEntries {H : Type} : List (Lit × DataW H) → Nat
  | [] => 0
  | x :: r => uptoBulkEntry x + uptoBulkEntries r
def uptoBulkEntry {H : Type} : Lit × DataW H → Nat
  | (.string bytes, d) => bytes.length + uptoBulk d + 1
  | (_, d) => uptoBulk d + 1
 end
def uptoSmall : (H : Type) → List (DataW H) → Bool := fun _ ds => decide (uptoBulkAll ds ≤ 1048576)
def OpenSpec.upto (s : _root_.Go.ChangeSpec) : _root_.Go.OpenSpec := { _root_.Go.OpenSpec.ofChange s with cond := some uptoSmall }

/-- 'fedchatlaw38.TypingChecks', WHERE WHAT IT READS IS OF BULK AT MOST 1048576: true; the input reads as it did. -/
def typingChecksUptoRow : OpenClaim := { program := "ytjifohepbmaebaa", sum := "7458b69d5917350c8a2cda63e0f4490b38b3929317e4a4bc7ae6eae1277968fc", func := "fedchat/fedchatlaw38.TypingChecks", spec := "typingChecks", inPlace := ["internal/bytealg.IndexByteString", "internal/bytealg.IndexString", "slices.overlaps[fedchat/api.Typing]"], unfollowed := true, recurses := true, named := ["internal/bytealg.MaxLen"], apart := false, narrowed := true }
def TypingChecksUptoSaid : Prop := typingChecksUptoRow.holds Try.pinned (OpenSpec.upto typingChecksSpec)

/-- 'fedchatlaw38.TypingStarts', WHERE WHAT IT READS IS OF BULK AT MOST 1048576: true; the input reads as it did. -/
def typingStartsUptoRow : OpenClaim := { program := "ytjifohepbmaebaa", sum := "7458b69d5917350c8a2cda63e0f4490b38b3929317e4a4bc7ae6eae1277968fc", func := "fedchat/fedchatlaw38.TypingStarts", spec := "typingStarts", inPlace := ["internal/bytealg.IndexByteString", "internal/bytealg.IndexString", "slices.overlaps[fedchat/api.Typing]"], unfollowed := true, recurses := true, named := ["internal/bytealg.MaxLen"], apart := false, narrowed := true }
def TypingStartsUptoSaid : Prop := typingStartsUptoRow.holds Try.pinned (OpenSpec.upto typingStartsSpec)

/-- 'fedchatlaw38.TypingStops', WHERE WHAT IT READS IS OF BULK AT MOST 1048576: true; the input reads as it did. -/
def typingStopsUptoRow : OpenClaim := { program := "ytjifohepbmaebaa", sum := "7458b69d5917350c8a2cda63e0f4490b38b3929317e4a4bc7ae6eae1277968fc", func := "fedchat/fedchatlaw38.TypingStops", spec := "typingStops", inPlace := ["internal/bytealg.IndexByteString", "internal/bytealg.IndexString", "slices.overlaps[fedchat/api.Typing]"], unfollowed := true, recurses := true, named := ["internal/bytealg.MaxLen"], apart := false, narrowed := true }
def TypingStopsUptoSaid : Prop := typingStopsUptoRow.holds Try.pinned (OpenSpec.upto typingStopsSpec)

/-- 'fedchatlaw38.TypingStays', WHERE WHAT IT READS IS OF BULK AT MOST 1048576: true; the input reads as it did. -/
def typingStaysUptoRow : OpenClaim := { program := "ytjifohepbmaebaa", sum := "7458b69d5917350c8a2cda63e0f4490b38b3929317e4a4bc7ae6eae1277968fc", func := "fedchat/fedchatlaw38.TypingStays", spec := "typingStays", inPlace := ["internal/bytealg.IndexByteString", "internal/bytealg.IndexString", "slices.overlaps[fedchat/api.Typing]"], unfollowed := true, recurses := true, named := ["internal/bytealg.MaxLen"], apart := false, narrowed := true }
def TypingStaysUptoSaid : Prop := typingStaysUptoRow.holds Try.pinned (OpenSpec.upto typingStaysSpec)

/-- 'fedchatlaw38.TypingLasts', WHERE WHAT IT READS IS OF BULK AT MOST 1048576: true; the input reads as it did. -/
def typingLastsUptoRow : OpenClaim := { program := "ytjifohepbmaebaa", sum := "7458b69d5917350c8a2cda63e0f4490b38b3929317e4a4bc7ae6eae1277968fc", func := "fedchat/fedchatlaw38.TypingLasts", spec := "typingLasts", inPlace := ["internal/bytealg.IndexByteString", "internal/bytealg.IndexString", "slices.overlaps[fedchat/api.Typing]"], unfollowed := true, recurses := true, named := ["internal/bytealg.MaxLen"], apart := false, narrowed := true }
def TypingLastsUptoSaid : Prop := typingLastsUptoRow.holds Try.pinned (OpenSpec.upto typingLastsSpec)

/-- 'fedchatlaw38.TypingCleans', WHERE WHAT IT READS IS OF BULK AT MOST 1048576: true; the input reads as it did. -/
def typingCleansUptoRow : OpenClaim := { program := "ytjifohepbmaebaa", sum := "7458b69d5917350c8a2cda63e0f4490b38b3929317e4a4bc7ae6eae1277968fc", func := "fedchat/fedchatlaw38.TypingCleans", spec := "typingCleans", inPlace := ["internal/bytealg.IndexByteString", "internal/bytealg.IndexString", "slices.overlaps[fedchat/api.Typing]"], unfollowed := true, recurses := true, named := ["internal/bytealg.MaxLen"], apart := false, narrowed := true }
def TypingCleansUptoSaid : Prop := typingCleansUptoRow.holds Try.pinned (OpenSpec.upto typingCleansSpec)

end Rows
end Go.Proofs.Ytjifohepbmaebaa
