/-
  No cell of these rows narrows 'for every input' (looked for: loops, veiled, ifaces, maps, wideKeys, modest, calm, conditions, laid).
  DERIVED. THE GIVEN ROWS OF THIS SEAT. 5 by the template 'for every input the law returns true; each argument reads behind the call as it read before'; 0 by the template 'total and deterministic' (their statements: YtcedcfkjoppjdaaTotals.lean).
  GIVEN WITH THE SEED: the statements are not yours to turn. If you find one false, say at which input.
  Laid BY PROGRAM, IN A SANDBOX (cutbox-rows.mjs): the forced cells as the released guide's own fill.sh prints them over the translation f2da7c052a05c824… (all of the seat's roots in one cut). By AI agents, Wed Nov 11 2026. No macro, syntax, notation, axiom, sorry.
-/
import Derived.Test.YtcedcfkjoppjdaaChecked
import GoSem.Claim
import GoSem.ClaimJoined
import GoSem.ClaimMapViews
import Derived.JoinedTies
import Derived.KernelRfl
namespace Go.Proofs.Ytcedcfkjoppjdaa
/- THE CELL 'sum', in the pinned program and in every row, IS THE sha256 OF THE DUMP (.gsa) THAT YtcedcfkjoppjdaaProg.lean LOADS. Nothing in Lean hashes anything: it is a label: what it is worth is what the hold of that sum in a sandbox is worth. -/
noncomputable def Try.pinned : Pinned := { name := "ytcedcfkjoppjdaa", sum := "f2da7c052a05c8240b7556adb7b5f30981b93618effd0c1ace70dd709356e1f6", checked := Try.checked }
namespace Rows
def none {H : Type} : Left H := { results := [], args := [] }

/-- 'witanlaw04.TemplateMay': WHATEVER THE INPUT: true; the input reads as it did. -/
def templateMaySpec : ChangeSpec := { name := "templateMay", fn := fun _ => fun
  | [d1, d2, d3] => { results := [.lit (.bool true)], args := [d1, d2, d3] }
  | _ => none }
def templateMayRow : OpenClaim := { program := "ytcedcfkjoppjdaa", sum := "f2da7c052a05c8240b7556adb7b5f30981b93618effd0c1ace70dd709356e1f6", func := "witan/witanlaw04.TemplateMay", spec := "templateMay", unfollowed := true, recurses := true, apart := false }
def TemplateMaySaid : Prop := templateMayRow.holds Try.pinned (OpenSpec.ofChange templateMaySpec)

/-- ITS FALSE NEIGHBOUR: 'it returns false'. Refute it at one input. -/
def templateMayWrong : ChangeSpec := { name := "templateMay", fn := fun _ => fun
  | [d1, d2, d3] => { results := [.lit (.bool false)], args := [d1, d2, d3] }
  | _ => none }
def TemplateMayWrongFalsely : Prop := templateMayRow.holds Try.pinned (OpenSpec.ofChange templateMayWrong)

/-- 'witanlaw04.TemplateFits': WHATEVER THE INPUT: true; the input reads as it did. -/
def templateFitsSpec : ChangeSpec := { name := "templateFits", fn := fun _ => fun
  | [d1, d2, d3, d4] => { results := [.lit (.bool true)], args := [d1, d2, d3, d4] }
  | _ => none }
def templateFitsRow : OpenClaim := { program := "ytcedcfkjoppjdaa", sum := "f2da7c052a05c8240b7556adb7b5f30981b93618effd0c1ace70dd709356e1f6", func := "witan/witanlaw04.TemplateFits", spec := "templateFits", unfollowed := true, recurses := true, apart := false }
def TemplateFitsSaid : Prop := templateFitsRow.holds Try.pinned (OpenSpec.ofChange templateFitsSpec)

/-- ITS FALSE NEIGHBOUR: 'it returns false'. Refute it at one input. -/
def templateFitsWrong : ChangeSpec := { name := "templateFits", fn := fun _ => fun
  | [d1, d2, d3, d4] => { results := [.lit (.bool false)], args := [d1, d2, d3, d4] }
  | _ => none }
def TemplateFitsWrongFalsely : Prop := templateFitsRow.holds Try.pinned (OpenSpec.ofChange templateFitsWrong)

/-- 'witanlaw04.TemplateNames': WHATEVER THE INPUT: true; the input reads as it did. -/
def templateNamesSpec : ChangeSpec := { name := "templateNames", fn := fun _ => fun
  | [d1, d2] => { results := [.lit (.bool true)], args := [d1, d2] }
  | _ => none }
def templateNamesRow : OpenClaim := { program := "ytcedcfkjoppjdaa", sum := "f2da7c052a05c8240b7556adb7b5f30981b93618effd0c1ace70dd709356e1f6", func := "witan/witanlaw04.TemplateNames", spec := "templateNames", unfollowed := true, recurses := true, apart := false }
def TemplateNamesSaid : Prop := templateNamesRow.holds Try.pinned (OpenSpec.ofChange templateNamesSpec)

/-- ITS FALSE NEIGHBOUR: 'it returns false'. Refute it at one input. -/
def templateNamesWrong : ChangeSpec := { name := "templateNames", fn := fun _ => fun
  | [d1, d2] => { results := [.lit (.bool false)], args := [d1, d2] }
  | _ => none }
def TemplateNamesWrongFalsely : Prop := templateNamesRow.holds Try.pinned (OpenSpec.ofChange templateNamesWrong)

/-- 'witanlaw04.TemplateKinds': WHATEVER THE INPUT: true; the input reads as it did. -/
def templateKindsSpec : ChangeSpec := { name := "templateKinds", fn := fun _ => fun
  | [d1, d2, d3] => { results := [.lit (.bool true)], args := [d1, d2, d3] }
  | _ => none }
def templateKindsRow : OpenClaim := { program := "ytcedcfkjoppjdaa", sum := "f2da7c052a05c8240b7556adb7b5f30981b93618effd0c1ace70dd709356e1f6", func := "witan/witanlaw04.TemplateKinds", spec := "templateKinds", unfollowed := true, recurses := true, apart := false }
def TemplateKindsSaid : Prop := templateKindsRow.holds Try.pinned (OpenSpec.ofChange templateKindsSpec)

/-- ITS FALSE NEIGHBOUR: 'it returns false'. Refute it at one input. -/
def templateKindsWrong : ChangeSpec := { name := "templateKinds", fn := fun _ => fun
  | [d1, d2, d3] => { results := [.lit (.bool false)], args := [d1, d2, d3] }
  | _ => none }
def TemplateKindsWrongFalsely : Prop := templateKindsRow.holds Try.pinned (OpenSpec.ofChange templateKindsWrong)

/-- 'witanlaw04.TemplateNulls': WHATEVER THE INPUT: true; the input reads as it did. -/
def templateNullsSpec : ChangeSpec := { name := "templateNulls", fn := fun _ => fun
  | [d1, d2, d3, d4] => { results := [.lit (.bool true)], args := [d1, d2, d3, d4] }
  | _ => none }
def templateNullsRow : OpenClaim := { program := "ytcedcfkjoppjdaa", sum := "f2da7c052a05c8240b7556adb7b5f30981b93618effd0c1ace70dd709356e1f6", func := "witan/witanlaw04.TemplateNulls", spec := "templateNulls", unfollowed := true, recurses := true, apart := false }
def TemplateNullsSaid : Prop := templateNullsRow.holds Try.pinned (OpenSpec.ofChange templateNullsSpec)

/-- ITS FALSE NEIGHBOUR: 'it returns false'. Refute it at one input. -/
def templateNullsWrong : ChangeSpec := { name := "templateNulls", fn := fun _ => fun
  | [d1, d2, d3, d4] => { results := [.lit (.bool false)], args := [d1, d2, d3, d4] }
  | _ => none }
def TemplateNullsWrongFalsely : Prop := templateNullsRow.holds Try.pinned (OpenSpec.ofChange templateNullsWrong)

/- THE SECOND FORM. 'bulk': how many values and letters a reading holds, each counted each time it is reached (what is shared counts as often as it is met; a slice's spare places count too). A statement '..UptoSaid' is the law's where the arguments, and the package variables that the reading takes, are together of bulk at most 1048576: NARROWER than '..Said'. Prove '..Said' where nothing that the law and all that it calls make is longer than what came in: it says more and counts as full. Else prove '..UptoSaid'. A law counts once. -/
mutual
def uptoBulk {H : Type} : DataW H → Nat
  | .lit (.string bytes) => bytes.length + 1
  | .lit _ => 1
  | .nil => 1
  | .ptr d => uptoBulk d + 1
  | .slice elems spare => uptoBulkAll elems + uptoBulkAll spare + 1
  | .agg parts => uptoBulkAll parts + 1
  | .iface _ d => uptoBulk d + 1
  | .map entries => uptoBulkEntries entries + 1
  | .held _ => 1
def uptoBulkAll {H : Type} : List (DataW H) → Nat
  | [] => 0
  | d :: r => uptoBulk d + uptoBulkAll r
def uptoBulkEntries {H : Type} : List (Lit × DataW H) → Nat
  | [] => 0
  | x :: r => uptoBulkEntry x + uptoBulkEntries r
def uptoBulkEntry {H : Type} : Lit × DataW H → Nat
  | (.string bytes, d) => bytes.length + uptoBulk d + 1
  | (_, d) => uptoBulk d + 1
 end
def uptoSmall : (H : Type) → List (DataW H) → Bool := fun _ ds => decide (uptoBulkAll ds ≤ 1048576)
def OpenSpec.upto (s : _root_.Go.ChangeSpec) : _root_.Go.OpenSpec := { _root_.Go.OpenSpec.ofChange s with cond := some uptoSmall }

/-- 'witanlaw04.TemplateMay', WHERE WHAT IT READS IS OF BULK AT MOST 1048576: true; the input reads as it did. -/
def templateMayUptoRow : OpenClaim := { program := "ytcedcfkjoppjdaa", sum := "f2da7c052a05c8240b7556adb7b5f30981b93618effd0c1ace70dd709356e1f6", func := "witan/witanlaw04.TemplateMay", spec := "templateMay", unfollowed := true, recurses := true, apart := false, narrowed := true }
def TemplateMayUptoSaid : Prop := templateMayUptoRow.holds Try.pinned (OpenSpec.upto templateMaySpec)

/-- 'witanlaw04.TemplateFits', WHERE WHAT IT READS IS OF BULK AT MOST 1048576: true; the input reads as it did. -/
def templateFitsUptoRow : OpenClaim := { program := "ytcedcfkjoppjdaa", sum := "f2da7c052a05c8240b7556adb7b5f30981b93618effd0c1ace70dd709356e1f6", func := "witan/witanlaw04.TemplateFits", spec := "templateFits", unfollowed := true, recurses := true, apart := false, narrowed := true }
def TemplateFitsUptoSaid : Prop := templateFitsUptoRow.holds Try.pinned (OpenSpec.upto templateFitsSpec)

/-- 'witanlaw04.TemplateNames', WHERE WHAT IT READS IS OF BULK AT MOST 1048576: true; the input reads as it did. -/
def templateNamesUptoRow : OpenClaim := { program := "ytcedcfkjoppjdaa", sum := "f2da7c052a05c8240b7556adb7b5f30981b93618effd0c1ace70dd709356e1f6", func := "witan/witanlaw04.TemplateNames", spec := "templateNames", unfollowed := true, recurses := true, apart := false, narrowed := true }
def TemplateNamesUptoSaid : Prop := templateNamesUptoRow.holds Try.pinned (OpenSpec.upto templateNamesSpec)

/-- 'witanlaw04.TemplateKinds', WHERE WHAT IT READS IS OF BULK AT MOST 1048576: true; the input reads as it did. -/
def templateKindsUptoRow : OpenClaim := { program := "ytcedcfkjoppjdaa", sum := "f2da7c052a05c8240b7556adb7b5f30981b93618effd0c1ace70dd709356e1f6", func := "witan/witanlaw04.TemplateKinds", spec := "templateKinds", unfollowed := true, recurses := true, apart := false, narrowed := true }
def TemplateKindsUptoSaid : Prop := templateKindsUptoRow.holds Try.pinned (OpenSpec.upto templateKindsSpec)

/-- 'witanlaw04.TemplateNulls', WHERE WHAT IT READS IS OF BULK AT MOST 1048576: true; the input reads as it did. -/
def templateNullsUptoRow : OpenClaim := { program := "ytcedcfkjoppjdaa", sum := "f2da7c052a05c8240b7556adb7b5f30981b93618effd0c1ace70dd709356e1f6", func := "witan/witanlaw04.TemplateNulls", spec := "templateNulls", unfollowed := true, recurses := true, apart := false, narrowed := true }
def TemplateNullsUptoSaid : Prop := templateNullsUptoRow.holds Try.pinned (OpenSpec.upto templateNullsSpec)

end Rows
end Go.Proofs.Ytcedcfkjoppjdaa
