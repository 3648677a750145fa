/- Standard's table lies in a block of its own; lists of bytes that are cut, joined, laid. -/
import Derived.Deep.AppendLies
import Derived.Test.YtadcfndjbhcfbaaHd10
import Derived.Test.YtadcfndjbhcfbaaHuApart
namespace Go.Proofs.Ytadcfndjbhcfbaa
set_option linter.unusedVariables false
open Go.ChangeShapes Go.WideShapes Go.ChangeAt Go.RowKit

set_option maxHeartbeats 6400000 in
set_option maxRecDepth 100000 in
theorem standard_full (a b : Int) (w : World) : Calls Try.prog 10 #[.int .i64 a, .int .i64 b] w fun e w' => ∃ g, e = .returned (.agg (tbl (stdc (stdIx a b)) (slJ (stdIx a b) g)).toArray) ∧ Cells w' g 5 (ints .u8 (stdL (stdIx a b))) ∧ But Nowhere w w' := by
  have hu := Try.underlying25
  obtain ⟨i, hi⟩ : ∃ i, stdIx a b = i := ⟨_, rfl⟩
  have hi4 : i < 4 := hi ▸ stdIx_lt a b
  have hkd := kd_std a b
  rw [hi] at hkd ⊢
  have HKD : Hid _ := hkd
  clear hkd hi
  have kk := (Keep.start w).made 25 (Value.int .i64 0 :: Value.int .i64 0 :: Value.int .i64 0 :: Value.int .i64 0 :: Value.int .i64 0 :: Value.int .i64 0 :: Value.int .i64 0 :: Value.int .i64 0 :: Value.int .i64 0 :: Value.int .i64 0 :: Value.int .i64 0 :: Value.int .i64 0 :: Value.int .i64 0 :: Value.int .i64 0 :: Value.int .i64 0 :: Value.int .i64 0 :: Value.slice none 0 0 :: [])
  go_enter Try.func10, Try.ntmps10
  go_wp2_with fail
  refine (standards_any _).mono ?_
  rintro e W1 ⟨M, es, clk, rfl, dd, hM, hE⟩
  replace kk := kk.step dd
  obtain ⟨g, hO, hx, hv⟩ := hE.one i hi4 trivial
  have hlook : (Instr.lookup 46 (.map (some M)) (kdJ i) false).run Try.prog W1 = .ok (tbJ i g) W1 := by
    rw [HKD.out] at hv hx ⊢
    exact run_look _ _ _ W1 M es clk hM hE.kds hv hx
  rw [HKD.out] at hlook
  unfold tbJ at hlook
  have hth := kk.head.there 0 (tbl (stdc i) (slJ i g)).toArray.size (by simp [tbl_length])
  have kY := kk.laid_any (tbl (stdc i) (slJ i g)) (by rw [tbl_length]; rfl)
  have hg : g ≠ w.heap.size := by have := hO.1; simp at this; omega
  have hV := hO.2.but (But.setCells (S := fun k => k = w.heap.size) (tbl (stdc i) (slJ i g)) (But.refl (fun k => k = w.heap.size) W1) (fun _ => rfl) 0) hg
  have HX : Hid _ := And.intro kY hV
  have hal : (tbl (stdc i) (slJ i g)).toArray.all (·.oneCell') = true := tbl_all _ _ _ _
  have hi2 : (Try.prog.info? 25).map (·.size) = some (tbl (stdc i) (slJ i g)).toArray.size := by rw [List.size_toArray, tbl_length]; kernel_rfl
  have hi3 : (Try.prog.info? 25).map (·.size) = some (tbl (stdc i) (slJ i g)).length := by rw [tbl_length]; kernel_rfl
  have HI3 : Hid _ := hi3
  clear kk kY hV hE hM hv hx dd hO hi3
  go_wp2_with (refine wpList_store_mid rfl 25 (.tmp 4) (.tmp 11) rfl w.heap.size 0 (tbl (stdc i) (slJ i g)).toArray rfl rfl ?_ hi2 hal ?_; exact hth)
  refine bodyPost_ret (results_cells rfl HX.out.1.head hu rfl HI3.out _ rfl) rfl ⟨g, rfl, HX.out.2, HX.out.1.but⟩

/-- A block that is known, too. -/
theorem Keep.add {w W : World} {l : List Bk} {b : Nat} {t : TypeId} {c : List Value} (h : Keep w W l) (hc : Cells W b t c) (hb : w.heap.size ≤ b) (hne : ∀ x ∈ l, b ≠ x.1) : Keep w W ((b, t, c) :: l) :=
  ⟨h.but, fun x hx => by
    rcases List.mem_cons.1 hx with rfl | hx
    · exact hb
    · exact h.new x hx, fun x hx => by
    rcases List.mem_cons.1 hx with rfl | hx
    · exact hc
    · exact h.holds x hx, List.pairwise_cons.2 ⟨hne, h.apart⟩⟩

/-- Blocks of other cells are other blocks. -/
theorem Cells.ne {W : World} {b c : Nat} {t u : TypeId} {l m : List Value} (h : Cells W b t l) (k : Cells W c u m) (hn : t ≠ u) : b ≠ c := by
  intro e
  subst e
  unfold Cells at h k
  rw [h] at k
  simp at k
  exact hn k.2

theorem Cells.view {W : World} {b : Nat} {t : TypeId} {c : List Value} {l : List Int} (h : Cells W b t c) (off cap : Nat) (hl : ∀ i (hi : i < l.length), c[off + i]? = some (.int .u8 l[i])) : View W .u8 (.slice (some ⟨b, off, none⟩) l.length cap) l :=
  ⟨_, cap, rfl, fun _ => ⟨b, off, rfl, h.lt, fun i hi => (h.at _).trans (hl i hi)⟩⟩

theorem Cells.one {W : World} {b : Nat} {t : TypeId} {a : Int} (h : Cells W b t [.int .u8 a]) : View W .u8 (.slice (some ⟨b, 0, none⟩) 1 1) [a] :=
  h.view 0 1 (l := [a]) (fun i hi => by
    have h0 : i = 0 := by simpa using hi
    subst h0
    rfl)

/-- A list's own block. -/
theorem Lst.block {w w1 : World} {v : Value} {n : Nat} {l : List Int} (h : Lst w w1 5 1 v n (ints .u8 l)) (hn : 0 < n) (hl : l.length = n) :
    ∃ g cap cur, v = .slice (some ⟨g, 0, none⟩) n cap ∧ w.heap.size ≤ g ∧ n ≤ cap ∧ Cells w1 g 5 cur ∧ ∀ i (hi : i < l.length), cur[i]? = some (.int .u8 l[i]) := by
  rcases h.own.2 with ⟨-, e⟩ | ⟨g, cap, cur, rfl, _, hg, hc, hm, _, ht⟩
  · omega
  · refine ⟨g, cap, cur.toList, rfl, h.new g rfl, hc, ?_, fun i hi => ?_⟩
    · unfold Cells
      rw [hg]
    · have h1 := ints_at .u8 l i hi
      rw [← ht, List.getElem?_take_of_lt (by omega)] at h1
      exact h1

set_option maxHeartbeats 400000 in
/-- Many bytes more, out of another list. -/
theorem Lst.moreB {w w1 : World} {s : Value} {n : Nat} {xs : List Value} (h : Lst w w1 5 1 s n xs) (ad : Addr) (m c : Nat) (news : List Value) (hl : news.length = m) (hnews : ∀ j u, news[j]? = some u → w1.cell? (ad.add j) = some u) (h1 : ∀ u ∈ news, u.oneCell' = true) (hm : 0 < m) (hn : n + m ≤ 100000000) :
    ∃ g cap w2, (Builtin.append_ #[23, 23] 23 #[s, .slice (some ad) m c]).run Try.prog w1 = .ok (.slice (some ⟨g, 0, none⟩) (n + m) cap) w2 ∧ Lst w w2 5 1 (.slice (some ⟨g, 0, none⟩) (n + m) cap) (n + m) (xs ++ news) ∧
      But (fun k => s.ownBlock = some k) w1 w2 ∧ (s.ownBlock = some g ∨ w1.heap.size ≤ g) := by
  have E := Try.elemByte
  obtain ⟨i0, hi0, hz0, hz1, hz2⟩ := info_parts E.info
  have hbytes : (n + m) * 1 ≤ 140737488355328 := by omega
  obtain ⟨g, cap, w', hr, k2, k3, k4, k5⟩ := run_append_lies (P := Try.prog) w1 23 23 0 5 i0 (.int .u8 0) 1 1 E.under hi0 hz0 hz1 hz2 E.cells E.pos s n xs h.own ad m c news (by omega) hnews h1 hm (by unfold maxLen; omega) hbytes (by omega) _ rfl
  have hbut : But (fun k => s.ownBlock = some k) w1 w' := (But.refl _ _).grown k3 (fun k hk _ => hk)
  have hg : s.ownBlock = some g ∨ w1.heap.size ≤ g := k4.imp id (fun e => by omega)
  refine ⟨g, cap, w', hr, ⟨k2, fun x hx => ?_, h.but.step hbut (fun k hk f => by have := h.new k f; omega)⟩, hbut, hg⟩
  simp [Value.ownBlock] at hx
  subst hx
  rcases hg with e | e
  · exact h.new _ e
  · exact Nat.le_trans h.but.size e

/-- All but the first. -/
theorem slice_tail (g n : Nat) (h : 2 ≤ n) (w : World) : (Instr.slice 23 (.slice (some ⟨g, 0, none⟩) n n) (some (.int .i64 1)) none none).run Try.prog w = .ok (.slice (some ⟨g, 1, none⟩) (n - 1) (n - 1)) w := by
  have hu := Try.underlying23
  have hs : (Try.prog.info? 5).map (·.size) = some 1 := by kernel_rfl
  unfold Instr.slice
  simp [Sem.run_bind, run_underlying hu, go_sem]
  rw [if_pos (by omega), if_neg (by omega)]

theorem build_two (c : Nat → Int) (ao : Option Addr) (n m : Nat) (w : World) : (Instr.build 25 #[(0, .agg (tab .i64 16 c).toArray), (1, .slice ao n m)]).run Try.prog w = .ok (.agg (tbl c (.slice ao n m)).toArray) w := by
  kernel_rfl
theorem build_counts (c : Nat → Int) (w : World) : (Instr.build 25 #[(0, .agg (tab .i64 16 c).toArray)]).run Try.prog w = .ok (.agg (tbl c (.slice none 0 0)).toArray) w := by
  kernel_rfl
theorem build_values (ao : Option Addr) (n m : Nat) (w : World) : (Instr.build 25 #[(1, .slice ao n m)]).run Try.prog w = .ok (.agg (tbl (fun _ => 0) (.slice ao n m)).toArray) w := by
  kernel_rfl
theorem build_none (w : World) : (Instr.build 25 #[]).run Try.prog w = .ok (.agg (tbl (fun _ => 0) (.slice none 0 0)).toArray) w := by
  kernel_rfl

/-- Standard's table without its first value; values twice; ones alone; one code. -/
theorem std_tail : ∀ i, i < 4 → checkB (stdc i) ((stdL i).drop 1) = false := by decide +kernel
theorem std_min : ∀ i, i < 4 → 12 ≤ (stdL i).length := by decide +kernel

theorem twice_not {c : Nat → Int} {l : List Int} {p q : Nat} (hp : p < l.length) (hq : q < l.length) (hne : p ≠ q) : checkB c (l.set p l[q]) = false := by
  refine checkB_not _ _ (fun h => ?_)
  have hn := h.once
  have h1 := idx_at hn p (by simpa using hp)
  have h2 := idx_at hn q (by simpa using hq)
  rw [List.getElem_set_self] at h1
  rw [List.getElem_set_ne hne] at h2
  omega

theorem ones_not : ∀ m, m < 6 → checkB (upd (fun _ => 0) m (2 ^ (m + 1))) ((List.range (2 ^ (m + 1))).map Int.ofNat) = false := by decide +kernel

theorem one_oks : ∀ m, m < 16 → okB (upd (fun _ => 0) m 1) 16 = true ∧ cnt (upd (fun _ => 0) m 1) 16 = 1 := by decide +kernel
theorem one_ok (m : Nat) (hm : m < 16) (x : Int) : checkB (upd (fun _ => 0) m 1) [x] = true := by
  have h := one_oks m hm
  exact (checkB_iff _ _).2 ⟨(okB_iff _ _).1 h.1, by simpa using h.2, by simp, by simp⟩

end Go.Proofs.Ytadcfndjbhcfbaa
