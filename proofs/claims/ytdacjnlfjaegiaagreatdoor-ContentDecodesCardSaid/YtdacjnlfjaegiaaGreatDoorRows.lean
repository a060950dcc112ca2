/-
  NARROWER THAN 'FOR EVERY INPUT', by the rows' own cells (each row's printed sentence says how): ContentChecks: laid · ContentLevels: laid · ContentStrips: laid · ContentSames: laid · ContentEncodes: laid · ContentDecodes: laid · ContentApart: laid · ContentStripsAgain: laid · ContentUses: laid · ContentRemains: laid.
  DERIVED. THE GIVEN ROWS OF THIS SEAT. 10 by the template 'for every input the law returns true; each argument reads behind the call as it read before'; 0 by the template 'total and deterministic' (their statements: YtdacjnlfjaegiaaGreatDoorTotals.lean).
  GIVEN WITH THE SEED: the statements are not yours to turn. If you find one false, say at which input.
  Laid BY PROGRAM, IN A SANDBOX (cutbox-rows.mjs): the forced cells as the released guide's own fill.sh prints them over the translation bd90a14018047bee… (all of the seat's roots in one cut). By AI agents, Wed Nov 11 2026. No macro, syntax, notation, axiom, sorry.
-/
import Derived.Test.YtdacjnlfjaegiaaGreatDoorChecked
import GoSem.Claim
import GoSem.ClaimJoined
import GoSem.ClaimMapViews
import Derived.JoinedTies
import Derived.KernelRfl
namespace Go.Proofs.YtdacjnlfjaegiaaGreatDoor
/- THE CELL 'sum', in the pinned program and in every row, IS THE sha256 OF THE DUMP (.gsa) THAT YtdacjnlfjaegiaaGreatDoorProg.lean LOADS. Nothing in Lean hashes anything: it is a label: what it is worth is what the hold of that sum in a sandbox is worth. -/
noncomputable def Tryz.pinned : Pinned := { name := "ytdacjnlfjaegiaagreatdoor", sum := "bd90a14018047beea40c9e9dbc82e00325e6556171fda8af1611b8478c5ffd3c", checked := Tryz.checked }
namespace Rows
def none {H : Type} : Left H := { results := [], args := [] }

/- WHAT THE LISTED PACKAGE-LEVEL VARIABLES READ AS WHEN THE CALL BEGINS. Each datum BY PROGRAM (the guide's laid-datum.mjs) off the statement by which the dump's own 'gosem.cut.vars' lays the variable. In a bare row this is a premise. The card (YtdacjnlfjaegiaaGreatDoorCards.lean) ties it to the program's text. -/
def laid_fedchat_content_names {H : Type} : DataW H := .agg [.lit (.string [84, 101, 120, 116]), .lit (.string [78]), .lit (.string [84, 97, 114, 103, 101, 116]), .lit (.string [84, 104, 114, 101, 97, 100]), .lit (.string [86, 105, 97]), .lit (.string [65, 108, 108, 111, 119]), .lit (.string [68, 101, 110, 121]), .lit (.string [76, 101, 118, 101, 108, 115])]
def laid_fedchat_content_uses {H : Type} : DataW H := .agg [.lit (.int .i64 0), .lit (.int .i64 0), .lit (.int .i64 19), .lit (.int .i64 128), .lit (.int .i64 34), .lit (.int .i64 2), .lit (.int .i64 96), .lit (.int .i64 1), .lit (.int .i64 2), .lit (.int .i64 3), .lit (.int .i64 2), .lit (.int .i64 13), .lit (.int .i64 5), .lit (.int .i64 5), .lit (.int .i64 5)]
def laid_fedchat_content_keeps {H : Type} : DataW H := .agg [.lit (.int .i64 0), .lit (.int .i64 255), .lit (.int .i64 18), .lit (.int .i64 128), .lit (.int .i64 34), .lit (.int .i64 2), .lit (.int .i64 96), .lit (.int .i64 0), .lit (.int .i64 0), .lit (.int .i64 0), .lit (.int .i64 0), .lit (.int .i64 0), .lit (.int .i64 0), .lit (.int .i64 0), .lit (.int .i64 4)]

/-- 'fedchatlaw06.ContentChecks': WHATEVER THE INPUT: true; the input reads as it did. -/
def contentChecksSpec : ChangeSpec := { name := "contentChecks", fn := fun _ => fun
  | [d1, d2] => { results := [.lit (.bool true)], args := [d1, d2] }
  | _ => none }
def contentChecksRow : OpenClaim := { program := "ytdacjnlfjaegiaagreatdoor", sum := "bd90a14018047beea40c9e9dbc82e00325e6556171fda8af1611b8478c5ffd3c", func := "fedchat/fedchatlaw06.ContentChecks", spec := "contentChecks", inPlace := ["internal/bytealg.IndexByteString", "internal/bytealg.IndexString"], unfollowed := true, recurses := true, named := ["fedchat/content.uses", "internal/bytealg.MaxLen", "fedchat/content.keeps", "fedchat/content.names"], apart := false, laid := [("fedchat/content.names", laid_fedchat_content_names), ("fedchat/content.uses", laid_fedchat_content_uses), ("fedchat/content.keeps", laid_fedchat_content_keeps)] }
def ContentChecksSaid : Prop := contentChecksRow.holds Tryz.pinned (OpenSpec.ofChange contentChecksSpec)

/-- ITS FALSE NEIGHBOUR: 'it returns false'. Refute it at one input. -/
def contentChecksWrong : ChangeSpec := { name := "contentChecks", fn := fun _ => fun
  | [d1, d2] => { results := [.lit (.bool false)], args := [d1, d2] }
  | _ => none }
def ContentChecksWrongFalsely : Prop := contentChecksRow.holds Tryz.pinned (OpenSpec.ofChange contentChecksWrong)

/-- 'fedchatlaw06.ContentLevels': WHATEVER THE INPUT: true; the input reads as it did. -/
def contentLevelsSpec : ChangeSpec := { name := "contentLevels", fn := fun _ => fun
  | [d] => { results := [.lit (.bool true)], args := [d] }
  | _ => none }
def contentLevelsRow : OpenClaim := { program := "ytdacjnlfjaegiaagreatdoor", sum := "bd90a14018047beea40c9e9dbc82e00325e6556171fda8af1611b8478c5ffd3c", func := "fedchat/fedchatlaw06.ContentLevels", spec := "contentLevels", inPlace := ["internal/bytealg.IndexByteString", "internal/bytealg.IndexString"], unfollowed := true, recurses := true, named := ["internal/bytealg.MaxLen", "fedchat/content.names", "fedchat/content.uses", "fedchat/content.keeps"], apart := false, laid := [("fedchat/content.names", laid_fedchat_content_names), ("fedchat/content.uses", laid_fedchat_content_uses), ("fedchat/content.keeps", laid_fedchat_content_keeps)] }
def ContentLevelsSaid : Prop := contentLevelsRow.holds Tryz.pinned (OpenSpec.ofChange contentLevelsSpec)

/-- ITS FALSE NEIGHBOUR: 'it returns false'. Refute it at one input. -/
def contentLevelsWrong : ChangeSpec := { name := "contentLevels", fn := fun _ => fun
  | [d] => { results := [.lit (.bool false)], args := [d] }
  | _ => none }
def ContentLevelsWrongFalsely : Prop := contentLevelsRow.holds Tryz.pinned (OpenSpec.ofChange contentLevelsWrong)

/-- 'fedchatlaw06.ContentStrips': WHATEVER THE INPUT: true; the input reads as it did. -/
def contentStripsSpec : ChangeSpec := { name := "contentStrips", fn := fun _ => fun
  | [d1, d2] => { results := [.lit (.bool true)], args := [d1, d2] }
  | _ => none }
def contentStripsRow : OpenClaim := { program := "ytdacjnlfjaegiaagreatdoor", sum := "bd90a14018047beea40c9e9dbc82e00325e6556171fda8af1611b8478c5ffd3c", func := "fedchat/fedchatlaw06.ContentStrips", spec := "contentStrips", inPlace := ["internal/bytealg.IndexByteString", "internal/bytealg.IndexString"], unfollowed := true, recurses := true, named := ["fedchat/content.keeps", "internal/bytealg.MaxLen", "fedchat/content.names", "fedchat/content.uses"], apart := false, laid := [("fedchat/content.names", laid_fedchat_content_names), ("fedchat/content.uses", laid_fedchat_content_uses), ("fedchat/content.keeps", laid_fedchat_content_keeps)] }
def ContentStripsSaid : Prop := contentStripsRow.holds Tryz.pinned (OpenSpec.ofChange contentStripsSpec)

/-- ITS FALSE NEIGHBOUR: 'it returns false'. Refute it at one input. -/
def contentStripsWrong : ChangeSpec := { name := "contentStrips", fn := fun _ => fun
  | [d1, d2] => { results := [.lit (.bool false)], args := [d1, d2] }
  | _ => none }
def ContentStripsWrongFalsely : Prop := contentStripsRow.holds Tryz.pinned (OpenSpec.ofChange contentStripsWrong)

/-- 'fedchatlaw06.ContentSames': WHATEVER THE INPUT: true; the input reads as it did. -/
def contentSamesSpec : ChangeSpec := { name := "contentSames", fn := fun _ => fun
  | [d1, d2] => { results := [.lit (.bool true)], args := [d1, d2] }
  | _ => none }
def contentSamesRow : OpenClaim := { program := "ytdacjnlfjaegiaagreatdoor", sum := "bd90a14018047beea40c9e9dbc82e00325e6556171fda8af1611b8478c5ffd3c", func := "fedchat/fedchatlaw06.ContentSames", spec := "contentSames", inPlace := ["internal/bytealg.IndexByteString", "internal/bytealg.IndexString"], unfollowed := true, recurses := true, named := ["fedchat/content.names", "fedchat/content.uses", "internal/bytealg.MaxLen", "fedchat/content.keeps"], apart := false, laid := [("fedchat/content.names", laid_fedchat_content_names), ("fedchat/content.uses", laid_fedchat_content_uses), ("fedchat/content.keeps", laid_fedchat_content_keeps)] }
def ContentSamesSaid : Prop := contentSamesRow.holds Tryz.pinned (OpenSpec.ofChange contentSamesSpec)

/-- ITS FALSE NEIGHBOUR: 'it returns false'. Refute it at one input. -/
def contentSamesWrong : ChangeSpec := { name := "contentSames", fn := fun _ => fun
  | [d1, d2] => { results := [.lit (.bool false)], args := [d1, d2] }
  | _ => none }
def ContentSamesWrongFalsely : Prop := contentSamesRow.holds Tryz.pinned (OpenSpec.ofChange contentSamesWrong)

/-- 'fedchatlaw06.ContentEncodes': WHATEVER THE INPUT: true; the input reads as it did. -/
def contentEncodesSpec : ChangeSpec := { name := "contentEncodes", fn := fun _ => fun
  | [d] => { results := [.lit (.bool true)], args := [d] }
  | _ => none }
def contentEncodesRow : OpenClaim := { program := "ytdacjnlfjaegiaagreatdoor", sum := "bd90a14018047beea40c9e9dbc82e00325e6556171fda8af1611b8478c5ffd3c", func := "fedchat/fedchatlaw06.ContentEncodes", spec := "contentEncodes", inPlace := ["internal/bytealg.IndexByteString", "internal/bytealg.IndexString"], unfollowed := true, recurses := true, named := ["fedchat/content.names", "fedchat/content.uses", "internal/bytealg.MaxLen", "fedchat/content.keeps"], apart := false, laid := [("fedchat/content.names", laid_fedchat_content_names), ("fedchat/content.uses", laid_fedchat_content_uses), ("fedchat/content.keeps", laid_fedchat_content_keeps)] }
def ContentEncodesSaid : Prop := contentEncodesRow.holds Tryz.pinned (OpenSpec.ofChange contentEncodesSpec)

/-- ITS FALSE NEIGHBOUR: 'it returns false'. Refute it at one input. -/
def contentEncodesWrong : ChangeSpec := { name := "contentEncodes", fn := fun _ => fun
  | [d] => { results := [.lit (.bool false)], args := [d] }
  | _ => none }
def ContentEncodesWrongFalsely : Prop := contentEncodesRow.holds Tryz.pinned (OpenSpec.ofChange contentEncodesWrong)

/-- 'fedchatlaw06.ContentDecodes': WHATEVER THE INPUT: true; the input reads as it did. -/
def contentDecodesSpec : ChangeSpec := { name := "contentDecodes", fn := fun _ => fun
  | [d] => { results := [.lit (.bool true)], args := [d] }
  | _ => none }
def contentDecodesRow : OpenClaim := { program := "ytdacjnlfjaegiaagreatdoor", sum := "bd90a14018047beea40c9e9dbc82e00325e6556171fda8af1611b8478c5ffd3c", func := "fedchat/fedchatlaw06.ContentDecodes", spec := "contentDecodes", inPlace := ["internal/bytealg.IndexByteString", "internal/bytealg.IndexString"], unfollowed := true, recurses := true, named := ["fedchat/content.names", "fedchat/content.uses", "internal/bytealg.MaxLen", "fedchat/content.keeps"], apart := false, laid := [("fedchat/content.names", laid_fedchat_content_names), ("fedchat/content.uses", laid_fedchat_content_uses), ("fedchat/content.keeps", laid_fedchat_content_keeps)] }
def ContentDecodesSaid : Prop := contentDecodesRow.holds Tryz.pinned (OpenSpec.ofChange contentDecodesSpec)

/-- ITS FALSE NEIGHBOUR: 'it returns false'. Refute it at one input. -/
def contentDecodesWrong : ChangeSpec := { name := "contentDecodes", fn := fun _ => fun
  | [d] => { results := [.lit (.bool false)], args := [d] }
  | _ => none }
def ContentDecodesWrongFalsely : Prop := contentDecodesRow.holds Tryz.pinned (OpenSpec.ofChange contentDecodesWrong)

/-- 'fedchatlaw06.ContentApart': WHATEVER THE INPUT: true; the input reads as it did. -/
def contentApartSpec : ChangeSpec := { name := "contentApart", fn := fun _ => fun
  | [d1, d2] => { results := [.lit (.bool true)], args := [d1, d2] }
  | _ => none }
def contentApartRow : OpenClaim := { program := "ytdacjnlfjaegiaagreatdoor", sum := "bd90a14018047beea40c9e9dbc82e00325e6556171fda8af1611b8478c5ffd3c", func := "fedchat/fedchatlaw06.ContentApart", spec := "contentApart", inPlace := ["internal/bytealg.IndexByteString", "internal/bytealg.IndexString"], unfollowed := true, recurses := true, named := ["fedchat/content.names", "fedchat/content.uses", "internal/bytealg.MaxLen", "fedchat/content.keeps"], apart := false, laid := [("fedchat/content.names", laid_fedchat_content_names), ("fedchat/content.uses", laid_fedchat_content_uses), ("fedchat/content.keeps", laid_fedchat_content_keeps)] }
def ContentApartSaid : Prop := contentApartRow.holds Tryz.pinned (OpenSpec.ofChange contentApartSpec)

/-- ITS FALSE NEIGHBOUR: 'it returns false'. Refute it at one input. -/
def contentApartWrong : ChangeSpec := { name := "contentApart", fn := fun _ => fun
  | [d1, d2] => { results := [.lit (.bool false)], args := [d1, d2] }
  | _ => none }
def ContentApartWrongFalsely : Prop := contentApartRow.holds Tryz.pinned (OpenSpec.ofChange contentApartWrong)

/-- 'fedchatlaw06.ContentStripsAgain': WHATEVER THE INPUT: true; the input reads as it did. -/
def contentStripsAgainSpec : ChangeSpec := { name := "contentStripsAgain", fn := fun _ => fun
  | [d1, d2] => { results := [.lit (.bool true)], args := [d1, d2] }
  | _ => none }
def contentStripsAgainRow : OpenClaim := { program := "ytdacjnlfjaegiaagreatdoor", sum := "bd90a14018047beea40c9e9dbc82e00325e6556171fda8af1611b8478c5ffd3c", func := "fedchat/fedchatlaw06.ContentStripsAgain", spec := "contentStripsAgain", inPlace := ["internal/bytealg.IndexByteString", "internal/bytealg.IndexString"], unfollowed := true, recurses := true, named := ["fedchat/content.keeps", "internal/bytealg.MaxLen", "fedchat/content.names", "fedchat/content.uses"], apart := false, laid := [("fedchat/content.names", laid_fedchat_content_names), ("fedchat/content.uses", laid_fedchat_content_uses), ("fedchat/content.keeps", laid_fedchat_content_keeps)] }
def ContentStripsAgainSaid : Prop := contentStripsAgainRow.holds Tryz.pinned (OpenSpec.ofChange contentStripsAgainSpec)

/-- ITS FALSE NEIGHBOUR: 'it returns false'. Refute it at one input. -/
def contentStripsAgainWrong : ChangeSpec := { name := "contentStripsAgain", fn := fun _ => fun
  | [d1, d2] => { results := [.lit (.bool false)], args := [d1, d2] }
  | _ => none }
def ContentStripsAgainWrongFalsely : Prop := contentStripsAgainRow.holds Tryz.pinned (OpenSpec.ofChange contentStripsAgainWrong)

/-- 'fedchatlaw06.ContentUses': WHATEVER THE INPUT: true; the input reads as it did. -/
def contentUsesSpec : ChangeSpec := { name := "contentUses", fn := fun _ => fun
  | [d1, d2] => { results := [.lit (.bool true)], args := [d1, d2] }
  | _ => none }
def contentUsesRow : OpenClaim := { program := "ytdacjnlfjaegiaagreatdoor", sum := "bd90a14018047beea40c9e9dbc82e00325e6556171fda8af1611b8478c5ffd3c", func := "fedchat/fedchatlaw06.ContentUses", spec := "contentUses", inPlace := ["internal/bytealg.IndexByteString", "internal/bytealg.IndexString"], unfollowed := true, recurses := true, named := ["fedchat/content.uses", "internal/bytealg.MaxLen", "fedchat/content.keeps", "fedchat/content.names"], apart := false, laid := [("fedchat/content.names", laid_fedchat_content_names), ("fedchat/content.uses", laid_fedchat_content_uses), ("fedchat/content.keeps", laid_fedchat_content_keeps)] }
def ContentUsesSaid : Prop := contentUsesRow.holds Tryz.pinned (OpenSpec.ofChange contentUsesSpec)

/-- ITS FALSE NEIGHBOUR: 'it returns false'. Refute it at one input. -/
def contentUsesWrong : ChangeSpec := { name := "contentUses", fn := fun _ => fun
  | [d1, d2] => { results := [.lit (.bool false)], args := [d1, d2] }
  | _ => none }
def ContentUsesWrongFalsely : Prop := contentUsesRow.holds Tryz.pinned (OpenSpec.ofChange contentUsesWrong)

/-- 'fedchatlaw06.ContentRemains': WHATEVER THE INPUT: true; the input reads as it did. -/
def contentRemainsSpec : ChangeSpec := { name := "contentRemains", fn := fun _ => fun
  | [d1, d2] => { results := [.lit (.bool true)], args := [d1, d2] }
  | _ => none }
def contentRemainsRow : OpenClaim := { program := "ytdacjnlfjaegiaagreatdoor", sum := "bd90a14018047beea40c9e9dbc82e00325e6556171fda8af1611b8478c5ffd3c", func := "fedchat/fedchatlaw06.ContentRemains", spec := "contentRemains", inPlace := ["internal/bytealg.IndexByteString", "internal/bytealg.IndexString"], unfollowed := true, recurses := true, named := ["fedchat/content.uses", "internal/bytealg.MaxLen", "fedchat/content.keeps", "fedchat/content.names"], apart := false, laid := [("fedchat/content.names", laid_fedchat_content_names), ("fedchat/content.uses", laid_fedchat_content_uses), ("fedchat/content.keeps", laid_fedchat_content_keeps)] }
def ContentRemainsSaid : Prop := contentRemainsRow.holds Tryz.pinned (OpenSpec.ofChange contentRemainsSpec)

/-- ITS FALSE NEIGHBOUR: 'it returns false'. Refute it at one input. -/
def contentRemainsWrong : ChangeSpec := { name := "contentRemains", fn := fun _ => fun
  | [d1, d2] => { results := [.lit (.bool false)], args := [d1, d2] }
  | _ => none }
def ContentRemainsWrongFalsely : Prop := contentRemainsRow.holds Tryz.pinned (OpenSpec.ofChange contentRemainsWrong)

/- THE SECOND FORM. 'bulk': how many values and letters a reading holds, each counted each time it is reached (what is shared counts as often as it is met; a slice's spare places count too). A statement '..UptoSaid' is the law's where the arguments, and the package variables that the reading takes, are together of bulk at most 1048576: NARROWER than '..Said'. Prove '..Said' where nothing that the law and all that it calls make is longer than what came in: it says more and counts as full. Else prove '..UptoSaid'. A law counts once. -/
mutual
def uptoBulk {H : Type} : DataW H → Nat
  | .lit (.string bytes) => bytes.length + 1
  | .lit _ => 1
  | .nil => 1
  | .ptr d => uptoBulk d + 1
  | .slice elems spare => uptoBulkAll elems + uptoBulkAll spare + 1
  | .agg parts => uptoBulkAll parts + 1
  | .iface _ d => uptoBulk d + 1
  | .map entries => uptoBulkEntries entries + 1
  | .held _ => 1
def uptoBulkAll {H : Type} : List (DataW H) → Nat
  | [] => 0
  | d :: r => uptoBulk d + uptoBulkAll r
def uptoBulkEntries {H : Type} : List (Lit × DataW H) → Nat
  | [] => 0
  | x :: r => uptoBulkEntry x + uptoBulkEntries r
def uptoBulkEntry {H : Type} : Lit × DataW H → Nat
  | (.string bytes, d) => bytes.length + uptoBulk d + 1
  | (_, d) => uptoBulk d + 1
 end
def uptoSmall : (H : Type) → List (DataW H) → Bool := fun _ ds => decide (uptoBulkAll ds ≤ 1048576)
def OpenSpec.upto (s : _root_.Go.ChangeSpec) : _root_.Go.OpenSpec := { _root_.Go.OpenSpec.ofChange s with cond := some uptoSmall }

/-- 'fedchatlaw06.ContentChecks', WHERE WHAT IT READS IS OF BULK AT MOST 1048576: true; the input reads as it did. -/
def contentChecksUptoRow : OpenClaim := { program := "ytdacjnlfjaegiaagreatdoor", sum := "bd90a14018047beea40c9e9dbc82e00325e6556171fda8af1611b8478c5ffd3c", func := "fedchat/fedchatlaw06.ContentChecks", spec := "contentChecks", inPlace := ["internal/bytealg.IndexByteString", "internal/bytealg.IndexString"], unfollowed := true, recurses := true, named := ["fedchat/content.uses", "internal/bytealg.MaxLen", "fedchat/content.keeps", "fedchat/content.names"], apart := false, laid := [("fedchat/content.names", laid_fedchat_content_names), ("fedchat/content.uses", laid_fedchat_content_uses), ("fedchat/content.keeps", laid_fedchat_content_keeps)], narrowed := true }
def ContentChecksUptoSaid : Prop := contentChecksUptoRow.holds Tryz.pinned (OpenSpec.upto contentChecksSpec)

/-- 'fedchatlaw06.ContentLevels', WHERE WHAT IT READS IS OF BULK AT MOST 1048576: true; the input reads as it did. -/
def contentLevelsUptoRow : OpenClaim := { program := "ytdacjnlfjaegiaagreatdoor", sum := "bd90a14018047beea40c9e9dbc82e00325e6556171fda8af1611b8478c5ffd3c", func := "fedchat/fedchatlaw06.ContentLevels", spec := "contentLevels", inPlace := ["internal/bytealg.IndexByteString", "internal/bytealg.IndexString"], unfollowed := true, recurses := true, named := ["internal/bytealg.MaxLen", "fedchat/content.names", "fedchat/content.uses", "fedchat/content.keeps"], apart := false, laid := [("fedchat/content.names", laid_fedchat_content_names), ("fedchat/content.uses", laid_fedchat_content_uses), ("fedchat/content.keeps", laid_fedchat_content_keeps)], narrowed := true }
def ContentLevelsUptoSaid : Prop := contentLevelsUptoRow.holds Tryz.pinned (OpenSpec.upto contentLevelsSpec)

/-- 'fedchatlaw06.ContentStrips', WHERE WHAT IT READS IS OF BULK AT MOST 1048576: true; the input reads as it did. -/
def contentStripsUptoRow : OpenClaim := { program := "ytdacjnlfjaegiaagreatdoor", sum := "bd90a14018047beea40c9e9dbc82e00325e6556171fda8af1611b8478c5ffd3c", func := "fedchat/fedchatlaw06.ContentStrips", spec := "contentStrips", inPlace := ["internal/bytealg.IndexByteString", "internal/bytealg.IndexString"], unfollowed := true, recurses := true, named := ["fedchat/content.keeps", "internal/bytealg.MaxLen", "fedchat/content.names", "fedchat/content.uses"], apart := false, laid := [("fedchat/content.names", laid_fedchat_content_names), ("fedchat/content.uses", laid_fedchat_content_uses), ("fedchat/content.keeps", laid_fedchat_content_keeps)], narrowed := true }
def ContentStripsUptoSaid : Prop := contentStripsUptoRow.holds Tryz.pinned (OpenSpec.upto contentStripsSpec)

/-- 'fedchatlaw06.ContentSames', WHERE WHAT IT READS IS OF BULK AT MOST 1048576: true; the input reads as it did. -/
def contentSamesUptoRow : OpenClaim := { program := "ytdacjnlfjaegiaagreatdoor", sum := "bd90a14018047beea40c9e9dbc82e00325e6556171fda8af1611b8478c5ffd3c", func := "fedchat/fedchatlaw06.ContentSames", spec := "contentSames", inPlace := ["internal/bytealg.IndexByteString", "internal/bytealg.IndexString"], unfollowed := true, recurses := true, named := ["fedchat/content.names", "fedchat/content.uses", "internal/bytealg.MaxLen", "fedchat/content.keeps"], apart := false, laid := [("fedchat/content.names", laid_fedchat_content_names), ("fedchat/content.uses", laid_fedchat_content_uses), ("fedchat/content.keeps", laid_fedchat_content_keeps)], narrowed := true }
def ContentSamesUptoSaid : Prop := contentSamesUptoRow.holds Tryz.pinned (OpenSpec.upto contentSamesSpec)

/-- 'fedchatlaw06.ContentEncodes', WHERE WHAT IT READS IS OF BULK AT MOST 1048576: true; the input reads as it did. -/
def contentEncodesUptoRow : OpenClaim := { program := "ytdacjnlfjaegiaagreatdoor", sum := "bd90a14018047beea40c9e9dbc82e00325e6556171fda8af1611b8478c5ffd3c", func := "fedchat/fedchatlaw06.ContentEncodes", spec := "contentEncodes", inPlace := ["internal/bytealg.IndexByteString", "internal/bytealg.IndexString"], unfollowed := true, recurses := true, named := ["fedchat/content.names", "fedchat/content.uses", "internal/bytealg.MaxLen", "fedchat/content.keeps"], apart := false, laid := [("fedchat/content.names", laid_fedchat_content_names), ("fedchat/content.uses", laid_fedchat_content_uses), ("fedchat/content.keeps", laid_fedchat_content_keeps)], narrowed := true }
def ContentEncodesUptoSaid : Prop := contentEncodesUptoRow.holds Tryz.pinned (OpenSpec.upto contentEncodesSpec)

/-- 'fedchatlaw06.ContentDecodes', WHERE WHAT IT READS IS OF BULK AT MOST 1048576: true; the input reads as it did. -/
def contentDecodesUptoRow : OpenClaim := { program := "ytdacjnlfjaegiaagreatdoor", sum := "bd90a14018047beea40c9e9dbc82e00325e6556171fda8af1611b8478c5ffd3c", func := "fedchat/fedchatlaw06.ContentDecodes", spec := "contentDecodes", inPlace := ["internal/bytealg.IndexByteString", "internal/bytealg.IndexString"], unfollowed := true, recurses := true, named := ["fedchat/content.names", "fedchat/content.uses", "internal/bytealg.MaxLen", "fedchat/content.keeps"], apart := false, laid := [("fedchat/content.names", laid_fedchat_content_names), ("fedchat/content.uses", laid_fedchat_content_uses), ("fedchat/content.keeps", laid_fedchat_content_keeps)], narrowed := true }
def ContentDecodesUptoSaid : Prop := contentDecodesUptoRow.holds Tryz.pinned (OpenSpec.upto contentDecodesSpec)

/-- 'fedchatlaw06.ContentApart', WHERE WHAT IT READS IS OF BULK AT MOST 1048576: true; the input reads as it did. -/
def contentApartUptoRow : OpenClaim := { program := "ytdacjnlfjaegiaagreatdoor", sum := "bd90a14018047beea40c9e9dbc82e00325e6556171fda8af1611b8478c5ffd3c", func := "fedchat/fedchatlaw06.ContentApart", spec := "contentApart", inPlace := ["internal/bytealg.IndexByteString", "internal/bytealg.IndexString"], unfollowed := true, recurses := true, named := ["fedchat/content.names", "fedchat/content.uses", "internal/bytealg.MaxLen", "fedchat/content.keeps"], apart := false, laid := [("fedchat/content.names", laid_fedchat_content_names), ("fedchat/content.uses", laid_fedchat_content_uses), ("fedchat/content.keeps", laid_fedchat_content_keeps)], narrowed := true }
def ContentApartUptoSaid : Prop := contentApartUptoRow.holds Tryz.pinned (OpenSpec.upto contentApartSpec)

/-- 'fedchatlaw06.ContentStripsAgain', WHERE WHAT IT READS IS OF BULK AT MOST 1048576: true; the input reads as it did. -/
def contentStripsAgainUptoRow : OpenClaim := { program := "ytdacjnlfjaegiaagreatdoor", sum := "bd90a14018047beea40c9e9dbc82e00325e6556171fda8af1611b8478c5ffd3c", func := "fedchat/fedchatlaw06.ContentStripsAgain", spec := "contentStripsAgain", inPlace := ["internal/bytealg.IndexByteString", "internal/bytealg.IndexString"], unfollowed := true, recurses := true, named := ["fedchat/content.keeps", "internal/bytealg.MaxLen", "fedchat/content.names", "fedchat/content.uses"], apart := false, laid := [("fedchat/content.names", laid_fedchat_content_names), ("fedchat/content.uses", laid_fedchat_content_uses), ("fedchat/content.keeps", laid_fedchat_content_keeps)], narrowed := true }
def ContentStripsAgainUptoSaid : Prop := contentStripsAgainUptoRow.holds Tryz.pinned (OpenSpec.upto contentStripsAgainSpec)

/-- 'fedchatlaw06.ContentUses', WHERE WHAT IT READS IS OF BULK AT MOST 1048576: true; the input reads as it did. -/
def contentUsesUptoRow : OpenClaim := { program := "ytdacjnlfjaegiaagreatdoor", sum := "bd90a14018047beea40c9e9dbc82e00325e6556171fda8af1611b8478c5ffd3c", func := "fedchat/fedchatlaw06.ContentUses", spec := "contentUses", inPlace := ["internal/bytealg.IndexByteString", "internal/bytealg.IndexString"], unfollowed := true, recurses := true, named := ["fedchat/content.uses", "internal/bytealg.MaxLen", "fedchat/content.keeps", "fedchat/content.names"], apart := false, laid := [("fedchat/content.names", laid_fedchat_content_names), ("fedchat/content.uses", laid_fedchat_content_uses), ("fedchat/content.keeps", laid_fedchat_content_keeps)], narrowed := true }
def ContentUsesUptoSaid : Prop := contentUsesUptoRow.holds Tryz.pinned (OpenSpec.upto contentUsesSpec)

/-- 'fedchatlaw06.ContentRemains', WHERE WHAT IT READS IS OF BULK AT MOST 1048576: true; the input reads as it did. -/
def contentRemainsUptoRow : OpenClaim := { program := "ytdacjnlfjaegiaagreatdoor", sum := "bd90a14018047beea40c9e9dbc82e00325e6556171fda8af1611b8478c5ffd3c", func := "fedchat/fedchatlaw06.ContentRemains", spec := "contentRemains", inPlace := ["internal/bytealg.IndexByteString", "internal/bytealg.IndexString"], unfollowed := true, recurses := true, named := ["fedchat/content.uses", "internal/bytealg.MaxLen", "fedchat/content.keeps", "fedchat/content.names"], apart := false, laid := [("fedchat/content.names", laid_fedchat_content_names), ("fedchat/content.uses", laid_fedchat_content_uses), ("fedchat/content.keeps", laid_fedchat_content_keeps)], narrowed := true }
def ContentRemainsUptoSaid : Prop := contentRemainsUptoRow.holds Tryz.pinned (OpenSpec.upto contentRemainsSpec)

end Rows
end Go.Proofs.YtdacjnlfjaegiaaGreatDoor
