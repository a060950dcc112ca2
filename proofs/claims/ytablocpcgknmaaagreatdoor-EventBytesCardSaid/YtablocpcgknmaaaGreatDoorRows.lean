/-
  NARROWER THAN 'FOR EVERY INPUT', by the rows' own cells (each row's printed sentence says how): EventChecks: laid · EventIds: laid · EventStrips: laid · EventSigns: laid · EventReceives: laid · EventTampers: laid · EventContents: laid · EventBytes: laid · EventDecodes: laid · EventSame: laid.
  DERIVED. THE GIVEN ROWS OF THIS SEAT. 10 by the template 'for every input the law returns true; each argument reads behind the call as it read before'; 0 by the template 'total and deterministic' (their statements: YtablocpcgknmaaaGreatDoorTotals.lean).
  GIVEN WITH THE SEED: the statements are not yours to turn. If you find one false, say at which input.
  Laid BY PROGRAM, IN A SANDBOX (cutbox-rows.mjs): the forced cells as the released guide's own fill.sh prints them over the translation 6f85076bd9aa3aca… (all of the seat's roots in one cut). By AI agents, Wed Nov 11 2026. No macro, syntax, notation, axiom, sorry.
-/
import Derived.Test.YtablocpcgknmaaaGreatDoorChecked
import GoSem.Claim
import GoSem.ClaimJoined
import GoSem.ClaimMapViews
import Derived.JoinedTies
import Derived.KernelRfl
namespace Go.Proofs.YtablocpcgknmaaaGreatDoor
/- THE CELL 'sum', in the pinned program and in every row, IS THE sha256 OF THE DUMP (.gsa) THAT YtablocpcgknmaaaGreatDoorProg.lean LOADS. Nothing in Lean hashes anything: it is a label: what it is worth is what the hold of that sum in a sandbox is worth. -/
noncomputable def Tryz.pinned : Pinned := { name := "ytablocpcgknmaaagreatdoor", sum := "6f85076bd9aa3acad6164a79638d0d31fe60f594b171d1dfbf6383d5a5b9b83c", checked := Tryz.checked }
namespace Rows
def none {H : Type} : Left H := { results := [], args := [] }

/- WHAT THE LISTED PACKAGE-LEVEL VARIABLES READ AS WHEN THE CALL BEGINS. Each datum BY PROGRAM (the guide's laid-datum.mjs) off the statement by which the dump's own 'gosem.cut.vars' lays the variable. In a bare row this is a premise. The card (YtablocpcgknmaaaGreatDoorCards.lean) ties it to the program's text. -/
def laid_fedchat_content_uses {H : Type} : DataW H := .agg [.lit (.int .i64 0), .lit (.int .i64 0), .lit (.int .i64 19), .lit (.int .i64 128), .lit (.int .i64 34), .lit (.int .i64 2), .lit (.int .i64 96), .lit (.int .i64 1), .lit (.int .i64 2), .lit (.int .i64 3), .lit (.int .i64 2), .lit (.int .i64 13), .lit (.int .i64 5), .lit (.int .i64 5), .lit (.int .i64 5)]
def laid_fedchat_content_keeps {H : Type} : DataW H := .agg [.lit (.int .i64 0), .lit (.int .i64 255), .lit (.int .i64 18), .lit (.int .i64 128), .lit (.int .i64 34), .lit (.int .i64 2), .lit (.int .i64 96), .lit (.int .i64 0), .lit (.int .i64 0), .lit (.int .i64 0), .lit (.int .i64 0), .lit (.int .i64 0), .lit (.int .i64 0), .lit (.int .i64 0), .lit (.int .i64 4)]

/-- 'fedchatlaw07.EventChecks': WHATEVER THE INPUT: true; the input reads as it did. -/
def eventChecksSpec : ChangeSpec := { name := "eventChecks", fn := fun _ => fun
  | [d] => { results := [.lit (.bool true)], args := [d] }
  | _ => none }
def eventChecksRow : OpenClaim := { program := "ytablocpcgknmaaagreatdoor", sum := "6f85076bd9aa3acad6164a79638d0d31fe60f594b171d1dfbf6383d5a5b9b83c", func := "fedchat/fedchatlaw07.EventChecks", spec := "eventChecks", inPlace := ["internal/bytealg.IndexByteString", "internal/bytealg.IndexString"], unfollowed := true, recurses := true, named := ["fedchat/content.keeps", "internal/bytealg.MaxLen", "fedchat/content.uses"], apart := false, laid := [("fedchat/content.uses", laid_fedchat_content_uses), ("fedchat/content.keeps", laid_fedchat_content_keeps)] }
def EventChecksSaid : Prop := eventChecksRow.holds Tryz.pinned (OpenSpec.ofChange eventChecksSpec)

/-- ITS FALSE NEIGHBOUR: 'it returns false'. Refute it at one input. -/
def eventChecksWrong : ChangeSpec := { name := "eventChecks", fn := fun _ => fun
  | [d] => { results := [.lit (.bool false)], args := [d] }
  | _ => none }
def EventChecksWrongFalsely : Prop := eventChecksRow.holds Tryz.pinned (OpenSpec.ofChange eventChecksWrong)

/-- 'fedchatlaw07.EventIds': WHATEVER THE INPUT: true; the input reads as it did. -/
def eventIdsSpec : ChangeSpec := { name := "eventIds", fn := fun _ => fun
  | [d1, d2, d3] => { results := [.lit (.bool true)], args := [d1, d2, d3] }
  | _ => none }
def eventIdsRow : OpenClaim := { program := "ytablocpcgknmaaagreatdoor", sum := "6f85076bd9aa3acad6164a79638d0d31fe60f594b171d1dfbf6383d5a5b9b83c", func := "fedchat/fedchatlaw07.EventIds", spec := "eventIds", inPlace := ["internal/bytealg.IndexByteString", "internal/bytealg.IndexString"], unfollowed := true, recurses := true, named := ["fedchat/content.keeps", "internal/bytealg.MaxLen", "fedchat/content.uses"], apart := false, laid := [("fedchat/content.uses", laid_fedchat_content_uses), ("fedchat/content.keeps", laid_fedchat_content_keeps)] }
def EventIdsSaid : Prop := eventIdsRow.holds Tryz.pinned (OpenSpec.ofChange eventIdsSpec)

/-- ITS FALSE NEIGHBOUR: 'it returns false'. Refute it at one input. -/
def eventIdsWrong : ChangeSpec := { name := "eventIds", fn := fun _ => fun
  | [d1, d2, d3] => { results := [.lit (.bool false)], args := [d1, d2, d3] }
  | _ => none }
def EventIdsWrongFalsely : Prop := eventIdsRow.holds Tryz.pinned (OpenSpec.ofChange eventIdsWrong)

/-- 'fedchatlaw07.EventStrips': WHATEVER THE INPUT: true; the input reads as it did. -/
def eventStripsSpec : ChangeSpec := { name := "eventStrips", fn := fun _ => fun
  | [d] => { results := [.lit (.bool true)], args := [d] }
  | _ => none }
def eventStripsRow : OpenClaim := { program := "ytablocpcgknmaaagreatdoor", sum := "6f85076bd9aa3acad6164a79638d0d31fe60f594b171d1dfbf6383d5a5b9b83c", func := "fedchat/fedchatlaw07.EventStrips", spec := "eventStrips", inPlace := ["internal/bytealg.IndexByteString", "internal/bytealg.IndexString"], unfollowed := true, recurses := true, named := ["fedchat/content.keeps", "internal/bytealg.MaxLen", "fedchat/content.uses"], apart := false, laid := [("fedchat/content.uses", laid_fedchat_content_uses), ("fedchat/content.keeps", laid_fedchat_content_keeps)] }
def EventStripsSaid : Prop := eventStripsRow.holds Tryz.pinned (OpenSpec.ofChange eventStripsSpec)

/-- ITS FALSE NEIGHBOUR: 'it returns false'. Refute it at one input. -/
def eventStripsWrong : ChangeSpec := { name := "eventStrips", fn := fun _ => fun
  | [d] => { results := [.lit (.bool false)], args := [d] }
  | _ => none }
def EventStripsWrongFalsely : Prop := eventStripsRow.holds Tryz.pinned (OpenSpec.ofChange eventStripsWrong)

/-- 'fedchatlaw07.EventSigns': WHATEVER THE INPUT: true; the input reads as it did. -/
def eventSignsSpec : ChangeSpec := { name := "eventSigns", fn := fun _ => fun
  | [d1, d2] => { results := [.lit (.bool true)], args := [d1, d2] }
  | _ => none }
def eventSignsRow : OpenClaim := { program := "ytablocpcgknmaaagreatdoor", sum := "6f85076bd9aa3acad6164a79638d0d31fe60f594b171d1dfbf6383d5a5b9b83c", func := "fedchat/fedchatlaw07.EventSigns", spec := "eventSigns", inPlace := ["internal/bytealg.IndexByteString", "internal/bytealg.IndexString"], unfollowed := true, recurses := true, named := ["fedchat/content.keeps", "internal/bytealg.MaxLen", "fedchat/content.uses"], apart := false, laid := [("fedchat/content.uses", laid_fedchat_content_uses), ("fedchat/content.keeps", laid_fedchat_content_keeps)] }
def EventSignsSaid : Prop := eventSignsRow.holds Tryz.pinned (OpenSpec.ofChange eventSignsSpec)

/-- ITS FALSE NEIGHBOUR: 'it returns false'. Refute it at one input. -/
def eventSignsWrong : ChangeSpec := { name := "eventSigns", fn := fun _ => fun
  | [d1, d2] => { results := [.lit (.bool false)], args := [d1, d2] }
  | _ => none }
def EventSignsWrongFalsely : Prop := eventSignsRow.holds Tryz.pinned (OpenSpec.ofChange eventSignsWrong)

/-- 'fedchatlaw07.EventReceives': WHATEVER THE INPUT: true; the input reads as it did. -/
def eventReceivesSpec : ChangeSpec := { name := "eventReceives", fn := fun _ => fun
  | [d] => { results := [.lit (.bool true)], args := [d] }
  | _ => none }
def eventReceivesRow : OpenClaim := { program := "ytablocpcgknmaaagreatdoor", sum := "6f85076bd9aa3acad6164a79638d0d31fe60f594b171d1dfbf6383d5a5b9b83c", func := "fedchat/fedchatlaw07.EventReceives", spec := "eventReceives", inPlace := ["internal/bytealg.IndexByteString", "internal/bytealg.IndexString"], unfollowed := true, recurses := true, named := ["fedchat/content.keeps", "internal/bytealg.MaxLen", "fedchat/content.uses"], apart := false, laid := [("fedchat/content.uses", laid_fedchat_content_uses), ("fedchat/content.keeps", laid_fedchat_content_keeps)] }
def EventReceivesSaid : Prop := eventReceivesRow.holds Tryz.pinned (OpenSpec.ofChange eventReceivesSpec)

/-- ITS FALSE NEIGHBOUR: 'it returns false'. Refute it at one input. -/
def eventReceivesWrong : ChangeSpec := { name := "eventReceives", fn := fun _ => fun
  | [d] => { results := [.lit (.bool false)], args := [d] }
  | _ => none }
def EventReceivesWrongFalsely : Prop := eventReceivesRow.holds Tryz.pinned (OpenSpec.ofChange eventReceivesWrong)

/-- 'fedchatlaw07.EventTampers': WHATEVER THE INPUT: true; the input reads as it did. -/
def eventTampersSpec : ChangeSpec := { name := "eventTampers", fn := fun _ => fun
  | [d1, d2] => { results := [.lit (.bool true)], args := [d1, d2] }
  | _ => none }
def eventTampersRow : OpenClaim := { program := "ytablocpcgknmaaagreatdoor", sum := "6f85076bd9aa3acad6164a79638d0d31fe60f594b171d1dfbf6383d5a5b9b83c", func := "fedchat/fedchatlaw07.EventTampers", spec := "eventTampers", inPlace := ["internal/bytealg.IndexByteString", "internal/bytealg.IndexString"], unfollowed := true, recurses := true, named := ["internal/bytealg.MaxLen", "fedchat/content.uses", "fedchat/content.keeps"], apart := false, laid := [("fedchat/content.uses", laid_fedchat_content_uses), ("fedchat/content.keeps", laid_fedchat_content_keeps)] }
def EventTampersSaid : Prop := eventTampersRow.holds Tryz.pinned (OpenSpec.ofChange eventTampersSpec)

/-- ITS FALSE NEIGHBOUR: 'it returns false'. Refute it at one input. -/
def eventTampersWrong : ChangeSpec := { name := "eventTampers", fn := fun _ => fun
  | [d1, d2] => { results := [.lit (.bool false)], args := [d1, d2] }
  | _ => none }
def EventTampersWrongFalsely : Prop := eventTampersRow.holds Tryz.pinned (OpenSpec.ofChange eventTampersWrong)

/-- 'fedchatlaw07.EventContents': WHATEVER THE INPUT: true; the input reads as it did. -/
def eventContentsSpec : ChangeSpec := { name := "eventContents", fn := fun _ => fun
  | [d1, d2] => { results := [.lit (.bool true)], args := [d1, d2] }
  | _ => none }
def eventContentsRow : OpenClaim := { program := "ytablocpcgknmaaagreatdoor", sum := "6f85076bd9aa3acad6164a79638d0d31fe60f594b171d1dfbf6383d5a5b9b83c", func := "fedchat/fedchatlaw07.EventContents", spec := "eventContents", inPlace := ["internal/bytealg.IndexByteString", "internal/bytealg.IndexString"], unfollowed := true, recurses := true, named := ["internal/bytealg.MaxLen", "fedchat/content.uses", "fedchat/content.keeps"], apart := false, laid := [("fedchat/content.uses", laid_fedchat_content_uses), ("fedchat/content.keeps", laid_fedchat_content_keeps)] }
def EventContentsSaid : Prop := eventContentsRow.holds Tryz.pinned (OpenSpec.ofChange eventContentsSpec)

/-- ITS FALSE NEIGHBOUR: 'it returns false'. Refute it at one input. -/
def eventContentsWrong : ChangeSpec := { name := "eventContents", fn := fun _ => fun
  | [d1, d2] => { results := [.lit (.bool false)], args := [d1, d2] }
  | _ => none }
def EventContentsWrongFalsely : Prop := eventContentsRow.holds Tryz.pinned (OpenSpec.ofChange eventContentsWrong)

/-- 'fedchatlaw07.EventBytes': WHATEVER THE INPUT: true; the input reads as it did. -/
def eventBytesSpec : ChangeSpec := { name := "eventBytes", fn := fun _ => fun
  | [d1, d2] => { results := [.lit (.bool true)], args := [d1, d2] }
  | _ => none }
def eventBytesRow : OpenClaim := { program := "ytablocpcgknmaaagreatdoor", sum := "6f85076bd9aa3acad6164a79638d0d31fe60f594b171d1dfbf6383d5a5b9b83c", func := "fedchat/fedchatlaw07.EventBytes", spec := "eventBytes", inPlace := ["internal/bytealg.IndexByteString", "internal/bytealg.IndexString"], unfollowed := true, recurses := true, named := ["fedchat/content.keeps", "internal/bytealg.MaxLen", "fedchat/content.uses"], apart := false, laid := [("fedchat/content.uses", laid_fedchat_content_uses), ("fedchat/content.keeps", laid_fedchat_content_keeps)] }
def EventBytesSaid : Prop := eventBytesRow.holds Tryz.pinned (OpenSpec.ofChange eventBytesSpec)

/-- ITS FALSE NEIGHBOUR: 'it returns false'. Refute it at one input. -/
def eventBytesWrong : ChangeSpec := { name := "eventBytes", fn := fun _ => fun
  | [d1, d2] => { results := [.lit (.bool false)], args := [d1, d2] }
  | _ => none }
def EventBytesWrongFalsely : Prop := eventBytesRow.holds Tryz.pinned (OpenSpec.ofChange eventBytesWrong)

/-- 'fedchatlaw07.EventDecodes': WHATEVER THE INPUT: true; the input reads as it did. -/
def eventDecodesSpec : ChangeSpec := { name := "eventDecodes", fn := fun _ => fun
  | [d] => { results := [.lit (.bool true)], args := [d] }
  | _ => none }
def eventDecodesRow : OpenClaim := { program := "ytablocpcgknmaaagreatdoor", sum := "6f85076bd9aa3acad6164a79638d0d31fe60f594b171d1dfbf6383d5a5b9b83c", func := "fedchat/fedchatlaw07.EventDecodes", spec := "eventDecodes", inPlace := ["internal/bytealg.IndexByteString", "internal/bytealg.IndexString"], unfollowed := true, recurses := true, named := ["fedchat/content.keeps", "internal/bytealg.MaxLen", "fedchat/content.uses"], apart := false, laid := [("fedchat/content.uses", laid_fedchat_content_uses), ("fedchat/content.keeps", laid_fedchat_content_keeps)] }
def EventDecodesSaid : Prop := eventDecodesRow.holds Tryz.pinned (OpenSpec.ofChange eventDecodesSpec)

/-- ITS FALSE NEIGHBOUR: 'it returns false'. Refute it at one input. -/
def eventDecodesWrong : ChangeSpec := { name := "eventDecodes", fn := fun _ => fun
  | [d] => { results := [.lit (.bool false)], args := [d] }
  | _ => none }
def EventDecodesWrongFalsely : Prop := eventDecodesRow.holds Tryz.pinned (OpenSpec.ofChange eventDecodesWrong)

/-- 'fedchatlaw07.EventSame': WHATEVER THE INPUT: true; the input reads as it did. -/
def eventSameSpec : ChangeSpec := { name := "eventSame", fn := fun _ => fun
  | [d1, d2] => { results := [.lit (.bool true)], args := [d1, d2] }
  | _ => none }
def eventSameRow : OpenClaim := { program := "ytablocpcgknmaaagreatdoor", sum := "6f85076bd9aa3acad6164a79638d0d31fe60f594b171d1dfbf6383d5a5b9b83c", func := "fedchat/fedchatlaw07.EventSame", spec := "eventSame", inPlace := ["internal/bytealg.IndexByteString", "internal/bytealg.IndexString"], unfollowed := true, recurses := true, named := ["fedchat/content.keeps", "internal/bytealg.MaxLen", "fedchat/content.uses"], apart := false, laid := [("fedchat/content.uses", laid_fedchat_content_uses), ("fedchat/content.keeps", laid_fedchat_content_keeps)] }
def EventSameSaid : Prop := eventSameRow.holds Tryz.pinned (OpenSpec.ofChange eventSameSpec)

/-- ITS FALSE NEIGHBOUR: 'it returns false'. Refute it at one input. -/
def eventSameWrong : ChangeSpec := { name := "eventSame", fn := fun _ => fun
  | [d1, d2] => { results := [.lit (.bool false)], args := [d1, d2] }
  | _ => none }
def EventSameWrongFalsely : Prop := eventSameRow.holds Tryz.pinned (OpenSpec.ofChange eventSameWrong)

/- THE SECOND FORM. 'bulk': how many values and letters a reading holds, each counted each time it is reached (what is shared counts as often as it is met; a slice's spare places count too). A statement '..UptoSaid' is the law's where the arguments, and the package variables that the reading takes, are together of bulk at most 1048576: NARROWER than '..Said'. Prove '..Said' where nothing that the law and all that it calls make is longer than what came in: it says more and counts as full. Else prove '..UptoSaid'. A law counts once. -/
mutual
def uptoBulk {H : Type} : DataW H → Nat
  | .lit (.string bytes) => bytes.length + 1
  | .lit _ => 1
  | .nil => 1
  | .ptr d => uptoBulk d + 1
  | .slice elems spare => uptoBulkAll elems + uptoBulkAll spare + 1
  | .agg parts => uptoBulkAll parts + 1
  | .iface _ d => uptoBulk d + 1
  | .map entries => uptoBulkEntries entries + 1
  | .held _ => 1
def uptoBulkAll {H : Type} : List (DataW H) → Nat
  | [] => 0
  | d :: r => uptoBulk d + uptoBulkAll r
def uptoBulkEntries {H : Type} : List (Lit × DataW H) → Nat
  | [] => 0
  | x :: r => uptoBulkEntry x + uptoBulkEntries r
def uptoBulkEntry {H : Type} : Lit × DataW H → Nat
  | (.string bytes, d) => bytes.length + uptoBulk d + 1
  | (_, d) => uptoBulk d + 1
 end
def uptoSmall : (H : Type) → List (DataW H) → Bool := fun _ ds => decide (uptoBulkAll ds ≤ 1048576)
def OpenSpec.upto (s : _root_.Go.ChangeSpec) : _root_.Go.OpenSpec := { _root_.Go.OpenSpec.ofChange s with cond := some uptoSmall }

/-- 'fedchatlaw07.EventChecks', WHERE WHAT IT READS IS OF BULK AT MOST 1048576: true; the input reads as it did. -/
def eventChecksUptoRow : OpenClaim := { program := "ytablocpcgknmaaagreatdoor", sum := "6f85076bd9aa3acad6164a79638d0d31fe60f594b171d1dfbf6383d5a5b9b83c", func := "fedchat/fedchatlaw07.EventChecks", spec := "eventChecks", inPlace := ["internal/bytealg.IndexByteString", "internal/bytealg.IndexString"], unfollowed := true, recurses := true, named := ["fedchat/content.keeps", "internal/bytealg.MaxLen", "fedchat/content.uses"], apart := false, laid := [("fedchat/content.uses", laid_fedchat_content_uses), ("fedchat/content.keeps", laid_fedchat_content_keeps)], narrowed := true }
def EventChecksUptoSaid : Prop := eventChecksUptoRow.holds Tryz.pinned (OpenSpec.upto eventChecksSpec)

/-- 'fedchatlaw07.EventIds', WHERE WHAT IT READS IS OF BULK AT MOST 1048576: true; the input reads as it did. -/
def eventIdsUptoRow : OpenClaim := { program := "ytablocpcgknmaaagreatdoor", sum := "6f85076bd9aa3acad6164a79638d0d31fe60f594b171d1dfbf6383d5a5b9b83c", func := "fedchat/fedchatlaw07.EventIds", spec := "eventIds", inPlace := ["internal/bytealg.IndexByteString", "internal/bytealg.IndexString"], unfollowed := true, recurses := true, named := ["fedchat/content.keeps", "internal/bytealg.MaxLen", "fedchat/content.uses"], apart := false, laid := [("fedchat/content.uses", laid_fedchat_content_uses), ("fedchat/content.keeps", laid_fedchat_content_keeps)], narrowed := true }
def EventIdsUptoSaid : Prop := eventIdsUptoRow.holds Tryz.pinned (OpenSpec.upto eventIdsSpec)

/-- 'fedchatlaw07.EventStrips', WHERE WHAT IT READS IS OF BULK AT MOST 1048576: true; the input reads as it did. -/
def eventStripsUptoRow : OpenClaim := { program := "ytablocpcgknmaaagreatdoor", sum := "6f85076bd9aa3acad6164a79638d0d31fe60f594b171d1dfbf6383d5a5b9b83c", func := "fedchat/fedchatlaw07.EventStrips", spec := "eventStrips", inPlace := ["internal/bytealg.IndexByteString", "internal/bytealg.IndexString"], unfollowed := true, recurses := true, named := ["fedchat/content.keeps", "internal/bytealg.MaxLen", "fedchat/content.uses"], apart := false, laid := [("fedchat/content.uses", laid_fedchat_content_uses), ("fedchat/content.keeps", laid_fedchat_content_keeps)], narrowed := true }
def EventStripsUptoSaid : Prop := eventStripsUptoRow.holds Tryz.pinned (OpenSpec.upto eventStripsSpec)

/-- 'fedchatlaw07.EventSigns', WHERE WHAT IT READS IS OF BULK AT MOST 1048576: true; the input reads as it did. -/
def eventSignsUptoRow : OpenClaim := { program := "ytablocpcgknmaaagreatdoor", sum := "6f85076bd9aa3acad6164a79638d0d31fe60f594b171d1dfbf6383d5a5b9b83c", func := "fedchat/fedchatlaw07.EventSigns", spec := "eventSigns", inPlace := ["internal/bytealg.IndexByteString", "internal/bytealg.IndexString"], unfollowed := true, recurses := true, named := ["fedchat/content.keeps", "internal/bytealg.MaxLen", "fedchat/content.uses"], apart := false, laid := [("fedchat/content.uses", laid_fedchat_content_uses), ("fedchat/content.keeps", laid_fedchat_content_keeps)], narrowed := true }
def EventSignsUptoSaid : Prop := eventSignsUptoRow.holds Tryz.pinned (OpenSpec.upto eventSignsSpec)

/-- 'fedchatlaw07.EventReceives', WHERE WHAT IT READS IS OF BULK AT MOST 1048576: true; the input reads as it did. -/
def eventReceivesUptoRow : OpenClaim := { program := "ytablocpcgknmaaagreatdoor", sum := "6f85076bd9aa3acad6164a79638d0d31fe60f594b171d1dfbf6383d5a5b9b83c", func := "fedchat/fedchatlaw07.EventReceives", spec := "eventReceives", inPlace := ["internal/bytealg.IndexByteString", "internal/bytealg.IndexString"], unfollowed := true, recurses := true, named := ["fedchat/content.keeps", "internal/bytealg.MaxLen", "fedchat/content.uses"], apart := false, laid := [("fedchat/content.uses", laid_fedchat_content_uses), ("fedchat/content.keeps", laid_fedchat_content_keeps)], narrowed := true }
def EventReceivesUptoSaid : Prop := eventReceivesUptoRow.holds Tryz.pinned (OpenSpec.upto eventReceivesSpec)

/-- 'fedchatlaw07.EventTampers', WHERE WHAT IT READS IS OF BULK AT MOST 1048576: true; the input reads as it did. -/
def eventTampersUptoRow : OpenClaim := { program := "ytablocpcgknmaaagreatdoor", sum := "6f85076bd9aa3acad6164a79638d0d31fe60f594b171d1dfbf6383d5a5b9b83c", func := "fedchat/fedchatlaw07.EventTampers", spec := "eventTampers", inPlace := ["internal/bytealg.IndexByteString", "internal/bytealg.IndexString"], unfollowed := true, recurses := true, named := ["internal/bytealg.MaxLen", "fedchat/content.uses", "fedchat/content.keeps"], apart := false, laid := [("fedchat/content.uses", laid_fedchat_content_uses), ("fedchat/content.keeps", laid_fedchat_content_keeps)], narrowed := true }
def EventTampersUptoSaid : Prop := eventTampersUptoRow.holds Tryz.pinned (OpenSpec.upto eventTampersSpec)

/-- 'fedchatlaw07.EventContents', WHERE WHAT IT READS IS OF BULK AT MOST 1048576: true; the input reads as it did. -/
def eventContentsUptoRow : OpenClaim := { program := "ytablocpcgknmaaagreatdoor", sum := "6f85076bd9aa3acad6164a79638d0d31fe60f594b171d1dfbf6383d5a5b9b83c", func := "fedchat/fedchatlaw07.EventContents", spec := "eventContents", inPlace := ["internal/bytealg.IndexByteString", "internal/bytealg.IndexString"], unfollowed := true, recurses := true, named := ["internal/bytealg.MaxLen", "fedchat/content.uses", "fedchat/content.keeps"], apart := false, laid := [("fedchat/content.uses", laid_fedchat_content_uses), ("fedchat/content.keeps", laid_fedchat_content_keeps)], narrowed := true }
def EventContentsUptoSaid : Prop := eventContentsUptoRow.holds Tryz.pinned (OpenSpec.upto eventContentsSpec)

/-- 'fedchatlaw07.EventBytes', WHERE WHAT IT READS IS OF BULK AT MOST 1048576: true; the input reads as it did. -/
def eventBytesUptoRow : OpenClaim := { program := "ytablocpcgknmaaagreatdoor", sum := "6f85076bd9aa3acad6164a79638d0d31fe60f594b171d1dfbf6383d5a5b9b83c", func := "fedchat/fedchatlaw07.EventBytes", spec := "eventBytes", inPlace := ["internal/bytealg.IndexByteString", "internal/bytealg.IndexString"], unfollowed := true, recurses := true, named := ["fedchat/content.keeps", "internal/bytealg.MaxLen", "fedchat/content.uses"], apart := false, laid := [("fedchat/content.uses", laid_fedchat_content_uses), ("fedchat/content.keeps", laid_fedchat_content_keeps)], narrowed := true }
def EventBytesUptoSaid : Prop := eventBytesUptoRow.holds Tryz.pinned (OpenSpec.upto eventBytesSpec)

/-- 'fedchatlaw07.EventDecodes', WHERE WHAT IT READS IS OF BULK AT MOST 1048576: true; the input reads as it did. -/
def eventDecodesUptoRow : OpenClaim := { program := "ytablocpcgknmaaagreatdoor", sum := "6f85076bd9aa3acad6164a79638d0d31fe60f594b171d1dfbf6383d5a5b9b83c", func := "fedchat/fedchatlaw07.EventDecodes", spec := "eventDecodes", inPlace := ["internal/bytealg.IndexByteString", "internal/bytealg.IndexString"], unfollowed := true, recurses := true, named := ["fedchat/content.keeps", "internal/bytealg.MaxLen", "fedchat/content.uses"], apart := false, laid := [("fedchat/content.uses", laid_fedchat_content_uses), ("fedchat/content.keeps", laid_fedchat_content_keeps)], narrowed := true }
def EventDecodesUptoSaid : Prop := eventDecodesUptoRow.holds Tryz.pinned (OpenSpec.upto eventDecodesSpec)

/-- 'fedchatlaw07.EventSame', WHERE WHAT IT READS IS OF BULK AT MOST 1048576: true; the input reads as it did. -/
def eventSameUptoRow : OpenClaim := { program := "ytablocpcgknmaaagreatdoor", sum := "6f85076bd9aa3acad6164a79638d0d31fe60f594b171d1dfbf6383d5a5b9b83c", func := "fedchat/fedchatlaw07.EventSame", spec := "eventSame", inPlace := ["internal/bytealg.IndexByteString", "internal/bytealg.IndexString"], unfollowed := true, recurses := true, named := ["fedchat/content.keeps", "internal/bytealg.MaxLen", "fedchat/content.uses"], apart := false, laid := [("fedchat/content.uses", laid_fedchat_content_uses), ("fedchat/content.keeps", laid_fedchat_content_keeps)], narrowed := true }
def EventSameUptoSaid : Prop := eventSameUptoRow.holds Tryz.pinned (OpenSpec.upto eventSameSpec)

end Rows
end Go.Proofs.YtablocpcgknmaaaGreatDoor
