/- ValueLaws: its walk with what its calls answer. -/
import Derived.Test.YtmoomdikgfeifaaWE
import Derived.Test.YtmoomdikgfeifaaWG
namespace Go.Proofs.Ytmoomdikgfeifaa
set_option linter.unusedVariables false

theorem laws_all (k n : Int) (s : ByteArray) (k' n' : Int) (s' : ByteArray) (k'' n'' : Int) (s'' : ByteArray) (_ : 0 ≤ k ∧ k ≤ 255) (_ : 0 ≤ k' ∧ k' ≤ 255) (_ : 0 ≤ k'' ∧ k'' ≤ 255) (hn : I64 n) (hn' : I64 n') (hn'' : I64 n'') (hs : s.size ≤ maxLen) (hs' : s'.size ≤ maxLen) (hs'' : s''.size ≤ maxLen) (w : World) :
    Calls Try.prog 4 #[vl k n s, vl k' n' s', vl k'' n'' s''] w fun e w' => e = .returned (.bool true) ∧ Old w w' := by
  have hz : ∀ x ∈ ([⟨k, n, s⟩, ⟨k', n', s'⟩, ⟨k'', n'', s''⟩] : List Vl), x.s.size ≤ maxLen := by
    intro x hx
    simp only [List.mem_cons, List.mem_nil_iff, or_false] at hx
    rcases hx with rfl | rfl | rfl
    · exact hs
    · exact hs'
    · exact hs''
  have l3 : ∀ x y z : Vl, [x, y, z].length ≤ 100000 := fun x y z => Nat.le_of_ble_eq_true rfl
  have l2 : ∀ x y : Vl, [x, y].length ≤ 100000 := fun x y => Nat.le_of_ble_eq_true rfl
  have cR := fun W v (h : RV W v [⟨k, n, s⟩, ⟨k', n', s'⟩, ⟨k'', n'', s''⟩]) => right_any _ v W h (l3 _ _ _) hz
  cases hr : rgB [⟨k, n, s⟩, ⟨k', n', s'⟩, ⟨k'', n'', s''⟩]
  · rw [hr] at cR
    exact laws_no k n s k' n' s' k'' n'' s'' w cR
  · rw [hr] at cR
    have hr' : rgX ⟨k, n, s⟩ = true ∧ rgX ⟨k', n', s'⟩ = true := by
      unfold rgB at hr
      simp only [List.all_cons, List.all_nil, Bool.and_true, Bool.and_eq_true] at hr
      exact ⟨hr.1, hr.2.1⟩
    have g1 := rg_of hr'.1
    have g2 := rg_of hr'.2
    have c4 : CI 7 #[vl k' n' s', vl k n s] (-od k n s k' n' s') := fun W => by
      rw [← od_turn]; exact order_any k' n' s' k n s W
    have u2 : CS 20 [⟨k'', n'', s''⟩, ⟨k, n, s⟩, ⟨k', n', s'⟩] (unT 0 [⟨k, n, s⟩, ⟨k', n', s'⟩, ⟨k'', n'', s''⟩]).1 (unT 0 [⟨k, n, s⟩, ⟨k', n', s'⟩, ⟨k'', n'', s''⟩]).2 := fun W v h => by
      rw [← un_cyc]; exact all_any _ v W h (l3 _ _ _)
    have v2 : CS 21 [⟨k', n', s'⟩, ⟨k'', n'', s''⟩, ⟨k, n, s⟩] (unT 1 [⟨k, n, s⟩, ⟨k', n', s'⟩, ⟨k'', n'', s''⟩]).1 (unT 1 [⟨k, n, s⟩, ⟨k', n', s'⟩, ⟨k'', n'', s''⟩]).2 := fun W v h => by
      rw [← un_cyc2]; exact any_any _ v W h (l3 _ _ _)
    have u3 : CS 20 [⟨(unT 0 [⟨k, n, s⟩, ⟨k', n', s'⟩]).1, (unT 0 [⟨k, n, s⟩, ⟨k', n', s'⟩]).2, ⟨#[]⟩⟩, ⟨k'', n'', s''⟩] (unT 0 [⟨k, n, s⟩, ⟨k', n', s'⟩, ⟨k'', n'', s''⟩]).1 (unT 0 [⟨k, n, s⟩, ⟨k', n', s'⟩, ⟨k'', n'', s''⟩]).2 := fun W v h => by
      rw [← un_two]; exact all_any _ v W h (l2 _ _)
    have y1 : CS 21 [⟨(ntT k n).1, (ntT k n).2, ⟨#[]⟩⟩, ⟨(ntT k' n').1, (ntT k' n').2, ⟨#[]⟩⟩] (ntT (unT 0 [⟨k, n, s⟩, ⟨k', n', s'⟩]).1 (unT 0 [⟨k, n, s⟩, ⟨k', n', s'⟩]).2).1 (ntT (unT 0 [⟨k, n, s⟩, ⟨k', n', s'⟩]).1 (unT 0 [⟨k, n, s⟩, ⟨k', n', s'⟩]).2).2 := fun W v h => by
      rw [un_not ⟨k, n, s⟩ ⟨k', n', s'⟩ g1 g2]; exact any_any _ v W h (l2 _ _)
    refine laws_walk k n s k' n' s' k'' n'' s'' w (od k n s k' n' s') (od k' n' s' k'' n'' s'') (od k n s k'' n'' s'') (cpV k n s k' n' s') (sbT k n k' n').1 (sbT k n k' n').2.1 (sbT k n k' n').2.2 _ _ _ _ _ _ _ _ _ _ _ _ (cpB k k') cR
      (fun W => order_any k n s k' n' s' W) (fun W => order_any k' n' s' k'' n'' s'' W) (fun W => order_any k n s k'' n'' s'' W) c4 (od_in k n s k' n' s') (fun h => od_zero h) ?_ ?_
      (fun W => compare_any k n s k' n' s' W hn hn') ?_
      (fun W v h => all_any _ v W h (l3 _ _ _)) u2 (fun W v h => any_any _ v W h (l3 _ _ _)) v2 (fun W v h => all_any _ v W h (l2 _ _)) u3
      (fun W => not_any _ _ _ W) (fun W => not_any k n s W) (fun W => not_any k' n' s' W) y1
    · intro h
      cases e : (k == k' && n == n' && s.toList == s'.toList)
      · rfl
      · simp only [Bool.and_eq_true, beq_iff_eq] at e
        obtain ⟨⟨rfl, rfl⟩, e⟩ := e
        have := ba_ext e
        subst this
        exact absurd (od_self k n s) h
    · have t1 := @od_trans k n s k' n' s' k'' n'' s''
      have t2 := @od_trans' k n s k' n' s' k'' n'' s''
      omega
    · intro h
      have ht := @cp_turn k n s k' n' s' h
      refine ⟨fun W => ?_, (cp_in k n s k' n' s').1, (cp_in k n s k' n' s').2, fun W => vsub_any k n s k' n' s' W hn hn', fun hc => cp_sub h hn hn' hc⟩
      have := compare_any k' n' s' k n s W hn' hn
      rw [ht.1, ht.2] at this
      exact this

end Go.Proofs.Ytmoomdikgfeifaa
