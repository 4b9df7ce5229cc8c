/-
  No cell of these rows narrows 'for every input' (looked for: loops, veiled, ifaces, maps, wideKeys, modest, calm, conditions, laid).
  DERIVED. THE GIVEN ROWS OF THIS SEAT. 4 by the template 'for every input the law returns true; each argument reads behind the call as it read before'; 0 by the template 'total and deterministic' (their statements: YtfgdgnkihiokoaaTotals.lean).
  GIVEN WITH THE SEED: the statements are not yours to turn. If you find one false, say at which input.
  Laid BY PROGRAM, IN A SANDBOX (cutbox-rows.mjs): the forced cells as the released guide's own fill.sh prints them over the translation 17d045515736b7d3… (all of the seat's roots in one cut). By AI agents, Wed Nov 11 2026. No macro, syntax, notation, axiom, sorry.
-/
import Derived.Test.YtfgdgnkihiokoaaChecked
import GoSem.Claim
import GoSem.ClaimJoined
import GoSem.ClaimMapViews
import Derived.JoinedTies
import Derived.KernelRfl
namespace Go.Proofs.Ytfgdgnkihiokoaa
/- THE CELL 'sum', in the pinned program and in every row, IS THE sha256 OF THE DUMP (.gsa) THAT YtfgdgnkihiokoaaProg.lean LOADS. Nothing in Lean hashes anything: it is a label: what it is worth is what the hold of that sum in a sandbox is worth. -/
noncomputable def Try.pinned : Pinned := { name := "ytfgdgnkihiokoaa", sum := "17d045515736b7d374474eebcdf85ad136d639417ccafc2bafc04e8de2dc01ea", checked := Try.checked }
namespace Rows
def none {H : Type} : Left H := { results := [], args := [] }

/-- 'witanlaw21.TokensTree': WHATEVER THE INPUT: true; the input reads as it did. -/
def tokensTreeSpec : ChangeSpec := { name := "tokensTree", fn := fun _ => fun
  | [d] => { results := [.lit (.bool true)], args := [d] }
  | _ => none }
def tokensTreeRow : OpenClaim := { program := "ytfgdgnkihiokoaa", sum := "17d045515736b7d374474eebcdf85ad136d639417ccafc2bafc04e8de2dc01ea", func := "witan/witanlaw21.TokensTree", spec := "tokensTree", unfollowed := true, recurses := true, apart := false }
def TokensTreeSaid : Prop := tokensTreeRow.holds Try.pinned (OpenSpec.ofChange tokensTreeSpec)

/-- ITS FALSE NEIGHBOUR: 'it returns false'. Refute it at one input. -/
def tokensTreeWrong : ChangeSpec := { name := "tokensTree", fn := fun _ => fun
  | [d] => { results := [.lit (.bool false)], args := [d] }
  | _ => none }
def TokensTreeWrongFalsely : Prop := tokensTreeRow.holds Try.pinned (OpenSpec.ofChange tokensTreeWrong)

/-- 'witanlaw21.TokensNone': WHATEVER THE INPUT: true; the input reads as it did. -/
def tokensNoneSpec : ChangeSpec := { name := "tokensNone", fn := fun _ => fun
  | [d] => { results := [.lit (.bool true)], args := [d] }
  | _ => none }
def tokensNoneRow : OpenClaim := { program := "ytfgdgnkihiokoaa", sum := "17d045515736b7d374474eebcdf85ad136d639417ccafc2bafc04e8de2dc01ea", func := "witan/witanlaw21.TokensNone", spec := "tokensNone", unfollowed := true, recurses := true, apart := false }
def TokensNoneSaid : Prop := tokensNoneRow.holds Try.pinned (OpenSpec.ofChange tokensNoneSpec)

/-- ITS FALSE NEIGHBOUR: 'it returns false'. Refute it at one input. -/
def tokensNoneWrong : ChangeSpec := { name := "tokensNone", fn := fun _ => fun
  | [d] => { results := [.lit (.bool false)], args := [d] }
  | _ => none }
def TokensNoneWrongFalsely : Prop := tokensNoneRow.holds Try.pinned (OpenSpec.ofChange tokensNoneWrong)

/-- 'witanlaw21.TokensLists': WHATEVER THE INPUT: true; the input reads as it did. -/
def tokensListsSpec : ChangeSpec := { name := "tokensLists", fn := fun _ => fun
  | [d] => { results := [.lit (.bool true)], args := [d] }
  | _ => none }
def tokensListsRow : OpenClaim := { program := "ytfgdgnkihiokoaa", sum := "17d045515736b7d374474eebcdf85ad136d639417ccafc2bafc04e8de2dc01ea", func := "witan/witanlaw21.TokensLists", spec := "tokensLists", unfollowed := true, recurses := true, apart := false }
def TokensListsSaid : Prop := tokensListsRow.holds Try.pinned (OpenSpec.ofChange tokensListsSpec)

/-- ITS FALSE NEIGHBOUR: 'it returns false'. Refute it at one input. -/
def tokensListsWrong : ChangeSpec := { name := "tokensLists", fn := fun _ => fun
  | [d] => { results := [.lit (.bool false)], args := [d] }
  | _ => none }
def TokensListsWrongFalsely : Prop := tokensListsRow.holds Try.pinned (OpenSpec.ofChange tokensListsWrong)

/-- 'witanlaw21.TokensApart': WHATEVER THE INPUT: true; the input reads as it did. -/
def tokensApartSpec : ChangeSpec := { name := "tokensApart", fn := fun _ => fun
  | [d1, d2] => { results := [.lit (.bool true)], args := [d1, d2] }
  | _ => none }
def tokensApartRow : OpenClaim := { program := "ytfgdgnkihiokoaa", sum := "17d045515736b7d374474eebcdf85ad136d639417ccafc2bafc04e8de2dc01ea", func := "witan/witanlaw21.TokensApart", spec := "tokensApart", unfollowed := true, recurses := true, apart := false }
def TokensApartSaid : Prop := tokensApartRow.holds Try.pinned (OpenSpec.ofChange tokensApartSpec)

/-- ITS FALSE NEIGHBOUR: 'it returns false'. Refute it at one input. -/
def tokensApartWrong : ChangeSpec := { name := "tokensApart", fn := fun _ => fun
  | [d1, d2] => { results := [.lit (.bool false)], args := [d1, d2] }
  | _ => none }
def TokensApartWrongFalsely : Prop := tokensApartRow.holds Try.pinned (OpenSpec.ofChange tokensApartWrong)

/- THE SECOND FORM. 'bulk': how many values and letters a reading holds, each counted each time it is reached (what is shared counts as often as it is met; a slice's spare places count too). A statement '..UptoSaid' is the law's where the arguments, and the package variables that the reading takes, are together of bulk at most 1048576: NARROWER than '..Said'. Prove '..Said' where nothing that the law and all that it calls make is longer than what came in: it says more and counts as full. Else prove '..UptoSaid'. A law counts once. -/
mutual
def uptoBulk {H : Type} : DataW H → Nat
  | .lit (.string bytes) => bytes.length + 1
  | .lit _ => 1
  | .nil => 1
  | .ptr d => uptoBulk d + 1
  | .slice elems spare => uptoBulkAll elems + uptoBulkAll spare + 1
  | .agg parts => uptoBulkAll parts + 1
  | .iface _ d => uptoBulk d + 1
  | .map entries => uptoBulkEntries entries + 1
  | .held _ => 1
def uptoBulkAll {H : Type} : List (DataW H) → Nat
  | [] => 0
  | d :: r => uptoBulk d + uptoBulkAll r
def uptoBulkEntries {H : Type} : List (Lit × DataW H) → Nat
  | [] => 0
  | x :: r => uptoBulkEntry x + uptoBulkEntries r
def uptoBulkEntry {H : Type} : Lit × DataW H → Nat
  | (.string bytes, d) => bytes.length + uptoBulk d + 1
  | (_, d) => uptoBulk d + 1
 end
def uptoSmall : (H : Type) → List (DataW H) → Bool := fun _ ds => decide (uptoBulkAll ds ≤ 1048576)
def OpenSpec.upto (s : _root_.Go.ChangeSpec) : _root_.Go.OpenSpec := { _root_.Go.OpenSpec.ofChange s with cond := some uptoSmall }

/-- 'witanlaw21.TokensTree', WHERE WHAT IT READS IS OF BULK AT MOST 1048576: true; the input reads as it did. -/
def tokensTreeUptoRow : OpenClaim := { program := "ytfgdgnkihiokoaa", sum := "17d045515736b7d374474eebcdf85ad136d639417ccafc2bafc04e8de2dc01ea", func := "witan/witanlaw21.TokensTree", spec := "tokensTree", unfollowed := true, recurses := true, apart := false, narrowed := true }
def TokensTreeUptoSaid : Prop := tokensTreeUptoRow.holds Try.pinned (OpenSpec.upto tokensTreeSpec)

/-- 'witanlaw21.TokensNone', WHERE WHAT IT READS IS OF BULK AT MOST 1048576: true; the input reads as it did. -/
def tokensNoneUptoRow : OpenClaim := { program := "ytfgdgnkihiokoaa", sum := "17d045515736b7d374474eebcdf85ad136d639417ccafc2bafc04e8de2dc01ea", func := "witan/witanlaw21.TokensNone", spec := "tokensNone", unfollowed := true, recurses := true, apart := false, narrowed := true }
def TokensNoneUptoSaid : Prop := tokensNoneUptoRow.holds Try.pinned (OpenSpec.upto tokensNoneSpec)

/-- 'witanlaw21.TokensLists', WHERE WHAT IT READS IS OF BULK AT MOST 1048576: true; the input reads as it did. -/
def tokensListsUptoRow : OpenClaim := { program := "ytfgdgnkihiokoaa", sum := "17d045515736b7d374474eebcdf85ad136d639417ccafc2bafc04e8de2dc01ea", func := "witan/witanlaw21.TokensLists", spec := "tokensLists", unfollowed := true, recurses := true, apart := false, narrowed := true }
def TokensListsUptoSaid : Prop := tokensListsUptoRow.holds Try.pinned (OpenSpec.upto tokensListsSpec)

/-- 'witanlaw21.TokensApart', WHERE WHAT IT READS IS OF BULK AT MOST 1048576: true; the input reads as it did. -/
def tokensApartUptoRow : OpenClaim := { program := "ytfgdgnkihiokoaa", sum := "17d045515736b7d374474eebcdf85ad136d639417ccafc2bafc04e8de2dc01ea", func := "witan/witanlaw21.TokensApart", spec := "tokensApart", unfollowed := true, recurses := true, apart := false, narrowed := true }
def TokensApartUptoSaid : Prop := tokensApartUptoRow.holds Try.pinned (OpenSpec.upto tokensApartSpec)

end Rows
end Go.Proofs.Ytfgdgnkihiokoaa
