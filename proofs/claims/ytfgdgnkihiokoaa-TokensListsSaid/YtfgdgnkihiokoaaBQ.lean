/- The arena: Remove. -/
import Derived.Test.YtfgdgnkihiokoaaBO
namespace Go.Proofs.Ytfgdgnkihiokoaa
open Go.ChangeShapes Go.WideShapes Go.ChangeAt Go.RowKit Go.Lib
set_option linter.unusedVariables false
set_option linter.unusedSimpArgs false
set_option maxRecDepth 100000
set_option maxHeartbeats 800000

theorem row_chg {S : Nat → Prop} {w w' : World} {base n size : Nat} {e : TypeId} {v : Value} {cs : List Value} (h : w.ownsRow base e size v n cs) (hc : Chg S w w') (hs : ∀ k, v.ownBlock = some k → ¬ S k) : w'.ownsRow base e size v n cs := by
  refine ⟨h.1, ?_⟩
  rcases h.2 with h' | ⟨g, cap, cur, rfl, hb', hg, hc'⟩
  · exact Or.inl h'
  · exact Or.inr ⟨g, cap, cur, rfl, hb', (hc.block g (blk_lt hg) (hs g rfl)).trans hg, hc'⟩
theorem row_lt {w : World} {base n size : Nat} {e : TypeId} {v : Value} {cs : List Value} (h : w.ownsRow base e size v n cs) : ∀ k, v.ownBlock = some k → k < w.heap.size := fun k hk => by
  rcases h.2 with ⟨rfl, _⟩ | ⟨g, cap, cur, rfl, hb, hg, _⟩
  · simp [Value.ownBlock] at hk
  · obtain rfl : g = k := by simpa [Value.ownBlock] using hk
    exact blk_lt hg
theorem Toks.cells {w : World} {base n cap : Nat} {oa : Option Addr} {l : List Tk} (h : Toks w base (.slice oa n cap) l) {i : Nat} {t : Tk} (hi : l[i]? = some t) : ∃ g, oa = some ⟨g, 0, none⟩ ∧ w.cell? ⟨g, i * 4, none⟩ = some (.int .i64 t.id) ∧ w.cell? ⟨g, i * 4 + 1, none⟩ = some (.int .i64 t.par) ∧ w.cell? ⟨g, i * 4 + 2, none⟩ = some (.int .i64 t.node) ∧ w.cell? ⟨g, i * 4 + 3, none⟩ = some (.int .i64 t.fact) := by
  have hil : i < l.length := (List.getElem?_eq_some_iff.1 hi).1
  obtain ⟨g, e, e2, hb, hg, c0⟩ := h.cell hi
  subst e
  have cc : ∀ q, q < 4 → w.cell? ⟨g, i * 4 + q, none⟩ = (encT t)[q]? := fun q hq => by
    rcases h.2 with ⟨e, e2⟩ | ⟨g', cp, cur, e, hb', hg', hc, hm, hsz, ht⟩
    · omega
    · obtain ⟨rfl, _, _⟩ : g = g' ∧ n = l.length ∧ cap = cp := by simpa using e
      have h1 := tcs_cell (l := l) (j := i * 4 + q) (by omega)
      rw [show (i * 4 + q) / 4 = i by omega, show (i * 4 + q) % 4 = q by omega, hi, Option.getD_some, ← ht, List.getElem?_take, if_pos (by omega), Array.getElem?_toList] at h1
      simp [World.cell?, hg', h1]
  exact ⟨g, rfl, c0, cc 1 (by omega), cc 2 (by omega), cc 3 (by omega)⟩

/-- Without these tokens. -/
def without (L G : List Tk) : List Tk := L.filter fun t => !decide (t.id ∈ G.map (·.id))
theorem without_nil (L : List Tk) : without L [] = L := by unfold without; simp
theorem without_snoc (L G : List Tk) (t : Tk) : without L (G ++ [t]) = delT (without L G) t.id := by
  unfold without delT
  rw [List.filter_filter]
  apply List.filter_congr
  intro x _
  by_cases h1 : x.id = t.id <;> by_cases h2 : x.id ∈ G.map (·.id) <;> simp_all
theorem without_gone {L : List Tk} {last : Nat} (h : Good L last) (r : Int) : without L (gone r L) = rest r L := by
  unfold without rest
  apply List.filter_congr
  intro x hx
  congr 1
  apply decide_eq_decide.2
  constructor
  · intro h1
    obtain ⟨y, hy, e⟩ := List.mem_map.1 h1
    obtain ⟨h2, h3⟩ := List.mem_filter.1 hy
    rw [← e]; simpa using h3
  · intro h1
    exact List.mem_map.2 ⟨x, List.mem_filter.2 ⟨hx, by simpa using h1⟩, rfl⟩
theorem mem_without {L G : List Tk} {k : Nat} {t : Tk} (hG : G.Pairwise (fun x y => x.id < y.id)) (hk : G[k]? = some t) (ht : t ∈ L) : t ∈ without L (G.take k) := by
  refine List.mem_filter.2 ⟨ht, ?_⟩
  simp only [Bool.not_eq_true', decide_eq_false_iff_not]
  intro hm
  obtain ⟨y, hy, e⟩ := List.mem_map.1 hm
  obtain ⟨j, hj⟩ := List.mem_iff_getElem?.1 hy
  have hjk : j < k := by
    have := (List.getElem?_eq_some_iff.1 hj).1
    rw [List.length_take] at this
    omega
  rw [List.getElem?_take_of_lt hjk] at hj
  obtain ⟨h1, h2⟩ := List.getElem?_eq_some_iff.1 hj
  obtain ⟨h3, h4⟩ := List.getElem?_eq_some_iff.1 hk
  have := List.pairwise_iff_getElem.1 hG j k h1 h3 hjk
  rw [h2, h4] at this
  omega

theorem remove_nil (i : Int) (w : World) : Calls Try.prog 10 #[.pointer none, .int .i64 i] w fun e w' => e = .returned (.slice none 0 0) ∧ Old w w' := by
  have hb : (!false || i == 0) = true := by simp
  go_enter Try.func10, Try.ntmps10
  go_wp2_with (go_at_call 11; (with_reducible refine (get_nil _ _).mono ?_); rintro e w1 ⟨rfl, ho⟩; have HO := Lib.hid ho; clear ho)
  go_ret
  exact ⟨rfl, HO.out.alloc _⟩
/-- There is none, or it is 0. -/
theorem remove_none {w : World} {b : Bs} {A : Nat → Prop} {L : List Tk} {last cap : Nat} (h : Ar w b A L last cap) (hu : L.Pairwise (fun x y => x.id < y.id)) {i : Int} (hi : I64 i) (hno : getT L i = none ∨ i = 0) :
    Calls Try.prog 10 #[ptr b, .int .i64 i] w fun e w' => e = .returned (.slice none 0 0) ∧ Old w w' := by
  have hg := get_any h hu hi
  by_cases hz : i = 0
  · subst hz
    generalize (getT L 0).getD noTk = t at hg
    generalize (getT L 0).isSome = o at hg
    clear h hno
    cases o
    · go_enter Try.func10, Try.ntmps10
      go_wp2_with (go_at_call 11; (with_reducible refine hg.mono ?_); rintro e w1 ⟨rfl, ho⟩; have HO := Lib.hid ho; clear ho)
      go_ret
      exact ⟨rfl, HO.out.alloc _⟩
    · go_enter Try.func10, Try.ntmps10
      go_wp2_with (go_at_call 11; (with_reducible refine hg.mono ?_); rintro e w1 ⟨rfl, ho⟩; have HO := Lib.hid ho; clear ho)
      go_ret
      exact ⟨rfl, HO.out.alloc _⟩
  · have hn := hno.resolve_right hz
    rw [hn] at hg
    clear h hno hn
    go_enter Try.func10, Try.ntmps10
    go_wp2_with (go_at_call 11; (with_reducible refine hg.mono ?_); rintro e w1 ⟨rfl, ho⟩; have HO := Lib.hid ho; clear ho)
    go_ret
    exact ⟨rfl, HO.out.alloc _⟩
end Go.Proofs.Ytfgdgnkihiokoaa
