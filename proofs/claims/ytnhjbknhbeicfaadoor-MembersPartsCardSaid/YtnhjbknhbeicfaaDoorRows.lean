/-
  NARROWER THAN 'FOR EVERY INPUT', by the rows' own cells (each row's printed sentence says how): MembersOf: laid · MembersServers: laid · MembersMoves: laid · MembersInStates: laid · MembersParts: laid · MembersWalks: laid.
  DERIVED. THE GIVEN ROWS OF THIS SEAT. 6 by the template 'for every input the law returns true; each argument reads behind the call as it read before'; 0 by the template 'total and deterministic' (their statements: YtnhjbknhbeicfaaDoorTotals.lean).
  GIVEN WITH THE SEED: the statements are not yours to turn. If you find one false, say at which input.
  Laid BY PROGRAM, IN A SANDBOX (cutbox-rows.mjs): the forced cells as the released guide's own fill.sh prints them over the translation 256e9947a8a56a22… (all of the seat's roots in one cut). By AI agents, Wed Nov 11 2026. No macro, syntax, notation, axiom, sorry.
-/
import Derived.Test.YtnhjbknhbeicfaaDoorChecked
import GoSem.Claim
import GoSem.ClaimJoined
import GoSem.ClaimMapViews
import Derived.JoinedTies
import Derived.KernelRfl
namespace Go.Proofs.YtnhjbknhbeicfaaDoor
/- THE CELL 'sum', in the pinned program and in every row, IS THE sha256 OF THE DUMP (.gsa) THAT YtnhjbknhbeicfaaDoorProg.lean LOADS. Nothing in Lean hashes anything: it is a label: what it is worth is what the hold of that sum in a sandbox is worth. -/
noncomputable def Tryd.pinned : Pinned := { name := "ytnhjbknhbeicfaadoor", sum := "256e9947a8a56a2240ae90df63714f99d96724e7dceb90b872e2ea8309fdb042", checked := Tryd.checked }
namespace Rows
def none {H : Type} : Left H := { results := [], args := [] }

/- WHAT THE LISTED PACKAGE-LEVEL VARIABLES READ AS WHEN THE CALL BEGINS. Each datum BY PROGRAM (the guide's laid-datum.mjs) off the statement by which the dump's own 'gosem.cut.vars' lays the variable. In a bare row this is a premise. The card (YtnhjbknhbeicfaaDoorCards.lean) ties it to the program's text. -/
def laid_fedchat_members_ownMoves {H : Type} : DataW H := .agg [.agg [.lit (.bool false), .lit (.bool true), .lit (.bool true), .lit (.bool true), .lit (.bool false)], .agg [.lit (.bool false), .lit (.bool false), .lit (.bool false), .lit (.bool false), .lit (.bool false)], .agg [.lit (.bool true), .lit (.bool false), .lit (.bool true), .lit (.bool false), .lit (.bool false)], .agg [.lit (.bool true), .lit (.bool true), .lit (.bool true), .lit (.bool true), .lit (.bool false)], .agg [.lit (.bool false), .lit (.bool false), .lit (.bool false), .lit (.bool false), .lit (.bool false)]]
def laid_fedchat_members_otherMoves {H : Type} : DataW H := .agg [.agg [.lit (.bool false), .lit (.bool true), .lit (.bool true), .lit (.bool true), .lit (.bool true)], .agg [.lit (.bool true), .lit (.bool true), .lit (.bool true), .lit (.bool false), .lit (.bool false)], .agg [.lit (.bool false), .lit (.bool false), .lit (.bool false), .lit (.bool false), .lit (.bool false)], .agg [.lit (.bool false), .lit (.bool false), .lit (.bool false), .lit (.bool false), .lit (.bool false)], .agg [.lit (.bool true), .lit (.bool true), .lit (.bool true), .lit (.bool true), .lit (.bool true)]]

/-- 'fedchatlaw12.MembersOf': WHATEVER THE INPUT: true; the input reads as it did. -/
def membersOfSpec : ChangeSpec := { name := "membersOf", fn := fun _ => fun
  | [d1, d2, d3] => { results := [.lit (.bool true)], args := [d1, d2, d3] }
  | _ => none }
def membersOfRow : OpenClaim := { program := "ytnhjbknhbeicfaadoor", sum := "256e9947a8a56a2240ae90df63714f99d96724e7dceb90b872e2ea8309fdb042", func := "fedchat/fedchatlaw12.MembersOf", spec := "membersOf", inPlace := ["internal/bytealg.IndexByteString", "internal/bytealg.IndexString"], unfollowed := true, recurses := true, named := ["internal/bytealg.MaxLen", "fedchat/members.ownMoves", "fedchat/members.otherMoves"], apart := false, laid := [("fedchat/members.ownMoves", laid_fedchat_members_ownMoves), ("fedchat/members.otherMoves", laid_fedchat_members_otherMoves)] }
def MembersOfSaid : Prop := membersOfRow.holds Tryd.pinned (OpenSpec.ofChange membersOfSpec)

/-- ITS FALSE NEIGHBOUR: 'it returns false'. Refute it at one input. -/
def membersOfWrong : ChangeSpec := { name := "membersOf", fn := fun _ => fun
  | [d1, d2, d3] => { results := [.lit (.bool false)], args := [d1, d2, d3] }
  | _ => none }
def MembersOfWrongFalsely : Prop := membersOfRow.holds Tryd.pinned (OpenSpec.ofChange membersOfWrong)

/-- 'fedchatlaw12.MembersServers': WHATEVER THE INPUT: true; the input reads as it did. -/
def membersServersSpec : ChangeSpec := { name := "membersServers", fn := fun _ => fun
  | [d] => { results := [.lit (.bool true)], args := [d] }
  | _ => none }
def membersServersRow : OpenClaim := { program := "ytnhjbknhbeicfaadoor", sum := "256e9947a8a56a2240ae90df63714f99d96724e7dceb90b872e2ea8309fdb042", func := "fedchat/fedchatlaw12.MembersServers", spec := "membersServers", inPlace := ["internal/bytealg.IndexByteString", "internal/bytealg.IndexString"], unfollowed := true, recurses := true, named := ["internal/bytealg.MaxLen", "fedchat/members.ownMoves", "fedchat/members.otherMoves"], apart := false, laid := [("fedchat/members.ownMoves", laid_fedchat_members_ownMoves), ("fedchat/members.otherMoves", laid_fedchat_members_otherMoves)] }
def MembersServersSaid : Prop := membersServersRow.holds Tryd.pinned (OpenSpec.ofChange membersServersSpec)

/-- ITS FALSE NEIGHBOUR: 'it returns false'. Refute it at one input. -/
def membersServersWrong : ChangeSpec := { name := "membersServers", fn := fun _ => fun
  | [d] => { results := [.lit (.bool false)], args := [d] }
  | _ => none }
def MembersServersWrongFalsely : Prop := membersServersRow.holds Tryd.pinned (OpenSpec.ofChange membersServersWrong)

/-- 'fedchatlaw12.MembersMoves': WHATEVER THE INPUT: true; the input reads as it did. -/
def membersMovesSpec : ChangeSpec := { name := "membersMoves", fn := fun _ => fun
  | [d1, d2, d3] => { results := [.lit (.bool true)], args := [d1, d2, d3] }
  | _ => none }
def membersMovesRow : OpenClaim := { program := "ytnhjbknhbeicfaadoor", sum := "256e9947a8a56a2240ae90df63714f99d96724e7dceb90b872e2ea8309fdb042", func := "fedchat/fedchatlaw12.MembersMoves", spec := "membersMoves", inPlace := ["internal/bytealg.IndexByteString", "internal/bytealg.IndexString"], unfollowed := true, recurses := true, named := ["fedchat/members.ownMoves", "fedchat/members.otherMoves", "internal/bytealg.MaxLen"], apart := false, laid := [("fedchat/members.ownMoves", laid_fedchat_members_ownMoves), ("fedchat/members.otherMoves", laid_fedchat_members_otherMoves)] }
def MembersMovesSaid : Prop := membersMovesRow.holds Tryd.pinned (OpenSpec.ofChange membersMovesSpec)

/-- ITS FALSE NEIGHBOUR: 'it returns false'. Refute it at one input. -/
def membersMovesWrong : ChangeSpec := { name := "membersMoves", fn := fun _ => fun
  | [d1, d2, d3] => { results := [.lit (.bool false)], args := [d1, d2, d3] }
  | _ => none }
def MembersMovesWrongFalsely : Prop := membersMovesRow.holds Tryd.pinned (OpenSpec.ofChange membersMovesWrong)

/-- 'fedchatlaw12.MembersInStates': WHATEVER THE INPUT: true; the input reads as it did. -/
def membersInStatesSpec : ChangeSpec := { name := "membersInStates", fn := fun _ => fun
  | [d1, d2, d3] => { results := [.lit (.bool true)], args := [d1, d2, d3] }
  | _ => none }
def membersInStatesRow : OpenClaim := { program := "ytnhjbknhbeicfaadoor", sum := "256e9947a8a56a2240ae90df63714f99d96724e7dceb90b872e2ea8309fdb042", func := "fedchat/fedchatlaw12.MembersInStates", spec := "membersInStates", inPlace := ["internal/bytealg.IndexByteString", "internal/bytealg.IndexString"], unfollowed := true, recurses := true, named := ["internal/bytealg.MaxLen", "fedchat/members.ownMoves", "fedchat/members.otherMoves"], apart := false, laid := [("fedchat/members.ownMoves", laid_fedchat_members_ownMoves), ("fedchat/members.otherMoves", laid_fedchat_members_otherMoves)] }
def MembersInStatesSaid : Prop := membersInStatesRow.holds Tryd.pinned (OpenSpec.ofChange membersInStatesSpec)

/-- ITS FALSE NEIGHBOUR: 'it returns false'. Refute it at one input. -/
def membersInStatesWrong : ChangeSpec := { name := "membersInStates", fn := fun _ => fun
  | [d1, d2, d3] => { results := [.lit (.bool false)], args := [d1, d2, d3] }
  | _ => none }
def MembersInStatesWrongFalsely : Prop := membersInStatesRow.holds Tryd.pinned (OpenSpec.ofChange membersInStatesWrong)

/-- 'fedchatlaw12.MembersParts': WHATEVER THE INPUT: true; the input reads as it did. -/
def membersPartsSpec : ChangeSpec := { name := "membersParts", fn := fun _ => fun
  | [d1, d2] => { results := [.lit (.bool true)], args := [d1, d2] }
  | _ => none }
def membersPartsRow : OpenClaim := { program := "ytnhjbknhbeicfaadoor", sum := "256e9947a8a56a2240ae90df63714f99d96724e7dceb90b872e2ea8309fdb042", func := "fedchat/fedchatlaw12.MembersParts", spec := "membersParts", inPlace := ["internal/bytealg.IndexByteString", "internal/bytealg.IndexString"], unfollowed := true, recurses := true, named := ["internal/bytealg.MaxLen", "fedchat/members.ownMoves", "fedchat/members.otherMoves"], apart := false, laid := [("fedchat/members.ownMoves", laid_fedchat_members_ownMoves), ("fedchat/members.otherMoves", laid_fedchat_members_otherMoves)] }
def MembersPartsSaid : Prop := membersPartsRow.holds Tryd.pinned (OpenSpec.ofChange membersPartsSpec)

/-- ITS FALSE NEIGHBOUR: 'it returns false'. Refute it at one input. -/
def membersPartsWrong : ChangeSpec := { name := "membersParts", fn := fun _ => fun
  | [d1, d2] => { results := [.lit (.bool false)], args := [d1, d2] }
  | _ => none }
def MembersPartsWrongFalsely : Prop := membersPartsRow.holds Tryd.pinned (OpenSpec.ofChange membersPartsWrong)

/-- 'fedchatlaw12.MembersWalks': WHATEVER THE INPUT: true; the input reads as it did. -/
def membersWalksSpec : ChangeSpec := { name := "membersWalks", fn := fun _ => fun
  | [d1, d2] => { results := [.lit (.bool true)], args := [d1, d2] }
  | _ => none }
def membersWalksRow : OpenClaim := { program := "ytnhjbknhbeicfaadoor", sum := "256e9947a8a56a2240ae90df63714f99d96724e7dceb90b872e2ea8309fdb042", func := "fedchat/fedchatlaw12.MembersWalks", spec := "membersWalks", inPlace := ["internal/bytealg.IndexByteString", "internal/bytealg.IndexString"], unfollowed := true, recurses := true, named := ["fedchat/members.ownMoves", "fedchat/members.otherMoves", "internal/bytealg.MaxLen"], apart := false, laid := [("fedchat/members.ownMoves", laid_fedchat_members_ownMoves), ("fedchat/members.otherMoves", laid_fedchat_members_otherMoves)] }
def MembersWalksSaid : Prop := membersWalksRow.holds Tryd.pinned (OpenSpec.ofChange membersWalksSpec)

/-- ITS FALSE NEIGHBOUR: 'it returns false'. Refute it at one input. -/
def membersWalksWrong : ChangeSpec := { name := "membersWalks", fn := fun _ => fun
  | [d1, d2] => { results := [.lit (.bool false)], args := [d1, d2] }
  | _ => none }
def MembersWalksWrongFalsely : Prop := membersWalksRow.holds Tryd.pinned (OpenSpec.ofChange membersWalksWrong)

/- THE SECOND FORM. 'bulk': how many values and letters a reading holds, each counted each time it is reached (what is shared counts as often as it is met; a slice's spare places count too). A statement '..UptoSaid' is the law's where the arguments, and the package variables that the reading takes, are together of bulk at most 1048576: NARROWER than '..Said'. Prove '..Said' where nothing that the law and all that it calls make is longer than what came in: it says more and counts as full. Else prove '..UptoSaid'. A law counts once. -/
mutual
def uptoBulk {H : Type} : DataW H → Nat
  | .lit (.string bytes) => bytes.length + 1
  | .lit _ => 1
  | .nil => 1
  | .ptr d => uptoBulk d + 1
  | .slice elems spare => uptoBulkAll elems + uptoBulkAll spare + 1
  | .agg parts => uptoBulkAll parts + 1
  | .iface _ d => uptoBulk d + 1
  | .map entries => uptoBulkEntries entries + 1
  | .held _ => 1
def uptoBulkAll {H : Type} : List (DataW H) → Nat
  | [] => 0
  | d :: r => uptoBulk d + uptoBulkAll r
def uptoBulkEntries {H : Type} : List (Lit × DataW H) → Nat
  | [] => 0
  | x :: r => uptoBulkEntry x + uptoBulkEntries r
def uptoBulkEntry {H : Type} : Lit × DataW H → Nat
  | (.string bytes, d) => bytes.length + uptoBulk d + 1
  | (_, d) => uptoBulk d + 1
 end
def uptoSmall : (H : Type) → List (DataW H) → Bool := fun _ ds => decide (uptoBulkAll ds ≤ 1048576)
def OpenSpec.upto (s : _root_.Go.ChangeSpec) : _root_.Go.OpenSpec := { _root_.Go.OpenSpec.ofChange s with cond := some uptoSmall }

/-- 'fedchatlaw12.MembersOf', WHERE WHAT IT READS IS OF BULK AT MOST 1048576: true; the input reads as it did. -/
def membersOfUptoRow : OpenClaim := { program := "ytnhjbknhbeicfaadoor", sum := "256e9947a8a56a2240ae90df63714f99d96724e7dceb90b872e2ea8309fdb042", func := "fedchat/fedchatlaw12.MembersOf", spec := "membersOf", inPlace := ["internal/bytealg.IndexByteString", "internal/bytealg.IndexString"], unfollowed := true, recurses := true, named := ["internal/bytealg.MaxLen", "fedchat/members.ownMoves", "fedchat/members.otherMoves"], apart := false, laid := [("fedchat/members.ownMoves", laid_fedchat_members_ownMoves), ("fedchat/members.otherMoves", laid_fedchat_members_otherMoves)], narrowed := true }
def MembersOfUptoSaid : Prop := membersOfUptoRow.holds Tryd.pinned (OpenSpec.upto membersOfSpec)

/-- 'fedchatlaw12.MembersServers', WHERE WHAT IT READS IS OF BULK AT MOST 1048576: true; the input reads as it did. -/
def membersServersUptoRow : OpenClaim := { program := "ytnhjbknhbeicfaadoor", sum := "256e9947a8a56a2240ae90df63714f99d96724e7dceb90b872e2ea8309fdb042", func := "fedchat/fedchatlaw12.MembersServers", spec := "membersServers", inPlace := ["internal/bytealg.IndexByteString", "internal/bytealg.IndexString"], unfollowed := true, recurses := true, named := ["internal/bytealg.MaxLen", "fedchat/members.ownMoves", "fedchat/members.otherMoves"], apart := false, laid := [("fedchat/members.ownMoves", laid_fedchat_members_ownMoves), ("fedchat/members.otherMoves", laid_fedchat_members_otherMoves)], narrowed := true }
def MembersServersUptoSaid : Prop := membersServersUptoRow.holds Tryd.pinned (OpenSpec.upto membersServersSpec)

/-- 'fedchatlaw12.MembersMoves', WHERE WHAT IT READS IS OF BULK AT MOST 1048576: true; the input reads as it did. -/
def membersMovesUptoRow : OpenClaim := { program := "ytnhjbknhbeicfaadoor", sum := "256e9947a8a56a2240ae90df63714f99d96724e7dceb90b872e2ea8309fdb042", func := "fedchat/fedchatlaw12.MembersMoves", spec := "membersMoves", inPlace := ["internal/bytealg.IndexByteString", "internal/bytealg.IndexString"], unfollowed := true, recurses := true, named := ["fedchat/members.ownMoves", "fedchat/members.otherMoves", "internal/bytealg.MaxLen"], apart := false, laid := [("fedchat/members.ownMoves", laid_fedchat_members_ownMoves), ("fedchat/members.otherMoves", laid_fedchat_members_otherMoves)], narrowed := true }
def MembersMovesUptoSaid : Prop := membersMovesUptoRow.holds Tryd.pinned (OpenSpec.upto membersMovesSpec)

/-- 'fedchatlaw12.MembersInStates', WHERE WHAT IT READS IS OF BULK AT MOST 1048576: true; the input reads as it did. -/
def membersInStatesUptoRow : OpenClaim := { program := "ytnhjbknhbeicfaadoor", sum := "256e9947a8a56a2240ae90df63714f99d96724e7dceb90b872e2ea8309fdb042", func := "fedchat/fedchatlaw12.MembersInStates", spec := "membersInStates", inPlace := ["internal/bytealg.IndexByteString", "internal/bytealg.IndexString"], unfollowed := true, recurses := true, named := ["internal/bytealg.MaxLen", "fedchat/members.ownMoves", "fedchat/members.otherMoves"], apart := false, laid := [("fedchat/members.ownMoves", laid_fedchat_members_ownMoves), ("fedchat/members.otherMoves", laid_fedchat_members_otherMoves)], narrowed := true }
def MembersInStatesUptoSaid : Prop := membersInStatesUptoRow.holds Tryd.pinned (OpenSpec.upto membersInStatesSpec)

/-- 'fedchatlaw12.MembersParts', WHERE WHAT IT READS IS OF BULK AT MOST 1048576: true; the input reads as it did. -/
def membersPartsUptoRow : OpenClaim := { program := "ytnhjbknhbeicfaadoor", sum := "256e9947a8a56a2240ae90df63714f99d96724e7dceb90b872e2ea8309fdb042", func := "fedchat/fedchatlaw12.MembersParts", spec := "membersParts", inPlace := ["internal/bytealg.IndexByteString", "internal/bytealg.IndexString"], unfollowed := true, recurses := true, named := ["internal/bytealg.MaxLen", "fedchat/members.ownMoves", "fedchat/members.otherMoves"], apart := false, laid := [("fedchat/members.ownMoves", laid_fedchat_members_ownMoves), ("fedchat/members.otherMoves", laid_fedchat_members_otherMoves)], narrowed := true }
def MembersPartsUptoSaid : Prop := membersPartsUptoRow.holds Tryd.pinned (OpenSpec.upto membersPartsSpec)

/-- 'fedchatlaw12.MembersWalks', WHERE WHAT IT READS IS OF BULK AT MOST 1048576: true; the input reads as it did. -/
def membersWalksUptoRow : OpenClaim := { program := "ytnhjbknhbeicfaadoor", sum := "256e9947a8a56a2240ae90df63714f99d96724e7dceb90b872e2ea8309fdb042", func := "fedchat/fedchatlaw12.MembersWalks", spec := "membersWalks", inPlace := ["internal/bytealg.IndexByteString", "internal/bytealg.IndexString"], unfollowed := true, recurses := true, named := ["fedchat/members.ownMoves", "fedchat/members.otherMoves", "internal/bytealg.MaxLen"], apart := false, laid := [("fedchat/members.ownMoves", laid_fedchat_members_ownMoves), ("fedchat/members.otherMoves", laid_fedchat_members_otherMoves)], narrowed := true }
def MembersWalksUptoSaid : Prop := membersWalksUptoRow.holds Tryd.pinned (OpenSpec.upto membersWalksSpec)

end Rows
end Go.Proofs.YtnhjbknhbeicfaaDoor
