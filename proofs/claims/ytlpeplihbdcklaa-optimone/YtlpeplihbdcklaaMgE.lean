import Derived.Test.YtlpeplihbdcklaaMgC
import Derived.Test.YtlpeplihbdcklaaMgHb

/- What all cost, the program's. -/
namespace Go.Proofs.Ytlpeplihbdcklaa
set_option linter.unusedVariables false
open Go.ChangeShapes Go.WideShapes Go.ChangeAt Go.RowKit

theorem Cells.neT {W : World} {b b' : Nat} {t t' : TypeId} {l l' : List Value} (h : Cells W b t l) (k : Cells W b' t' l') (ht : t ≠ t') : b ≠ b' := by
  intro e
  have h1 : W.heap[b]? = _ := h
  have h2 : W.heap[b']? = _ := k
  rw [e, h2] at h1
  cases h1
  exact ht rfl

theorem index_both (f g : Nat → Int) (k : Nat) (hk : k < 256) (w : World) : (Instr.index 35 (.agg (tab .i64 512 (both f g)).toArray) (.int .i64 (k : Int))).run Try.prog w = .ok (.agg #[.int .i64 (f k), .int .i64 (g k)]) w := by
  rw [index_code (both f g) k hk w]
  have e0 : both f g (k * 2) = f k := by unfold both; rw [if_pos (by omega), show k * 2 / 2 = k by omega]
  have e1 : both f g (k * 2 + 1) = g k := by unfold both; rw [if_neg (by omega), show (k * 2 + 1) / 2 = k by omega]
  rw [e0, e1]

set_option maxHeartbeats 6400000 in
set_option maxRecDepth 100000 in
theorem cost_any (c : Nat → Int) (pv : Value) (l : List Int) (hI : ∀ j, j < 16 → I64 (c j)) (hx : ∀ x ∈ l, 0 ≤ x ∧ x ≤ 255) (hl : l.length ≤ 140737488355328) (ao : Option Addr) (cap : Nat) (o : List Int) (hoI : ∀ x ∈ o, I64 x) (hol : o.length ≤ 140737488355328) (hcap : o.length ≤ cap) (w : World) (hv : View w .u8 pv l) (ho : View w .i64 (.slice ao o.length cap) o) :
    Calls Try.prog 14 #[.agg (tbl c pv).toArray, .slice ao o.length cap] w fun e w' => e = .returned (.int .i64 (costF c l (wtF o))) ∧ But Nowhere w w' := by
  have HV : Hid (View w .u8 pv l) := hv
  have HO : Hid (View w .i64 (.slice ao o.length cap) o) := ho
  have HOI : Hid _ := hoI
  clear hv ho hoI
  have hu := Try.underlying47
  have huC := Try.underlying35
  have huK := Try.underlying34
  have huT := Try.underlying30
  have hiB : ∀ f, (Try.prog.info? 35).map (·.size) = some (tab .i64 512 f).toArray.size := fun f => by rw [List.size_toArray, tab_length]; kernel_rfl
  have hiA : ∀ f, (Try.prog.info? 35).map (·.size) = some (tab .i64 512 f).length := fun f => by rw [tab_length]; kernel_rfl
  have hiT : (Try.prog.info? 30).map (·.size) = some (tbl c pv).length := by rw [tbl_length]; kernel_rfl
  have HBI : Hid _ := hiB
  have HAI : Hid _ := hiA
  clear hiB hiA
  have hz := zero257
  have hz5 := zero512
  have kk := (Keep.start w).made 30 (tbl c pv)
  go_enter Try.func14, Try.ntmps14
  go_upto_region 1 with fail
  go_cut [5, 6] from 10 to 13 (fun s r V => ∃ NA NB, s = .pointer (some ⟨NA, 0, none⟩) ∧ r = .pointer (some ⟨NB, 0, none⟩) ∧ Cells V NA 47 (tab .i64 257 (wtF o)) ∧ Cells V NB 35 (tab .i64 512 (both (codN c l) (codV c l))) ∧ But Nowhere w V)
  case first =>
    replace kk := kk.drew
    refine wp_region_till (S := fun V => V.rangeAt w.heap.size 0 (tbl c pv)) (R := fun _ => True) (k := 100) (m := 100) (by kernel_rfl) (kk.get (b := w.heap.size) (t := 30) (c := tbl c pv) (by simp)).all trivial ?_
    revert kk
    generalize (w.alloc (.cells (tbl c pv).toArray 30)).drew = WG
    intro kk
    (refine Walk.take (i := 0) (oi := { dst := some 10, op := Op.move (Operand.tmp 1), type := 22, pos := "optim.go:39", after := #[], guard := none }) (v := ?_) rfl (by kernel_rfl) (by kernel_rfl) (by kernel_rfl) (by kernel_rfl) (fun _ _ _ h => h) (Or.inl ⟨by rfl, ?_⟩) ?_; rotate_left; (intro w hw; clear hw; (try go_split_ands); go_simp; try (with_reducible rfl)); simp only [Act.put, List.setIfInBounds_toArray, List.set_cons_zero, List.set_cons_succ])
    (refine Walk.take (i := 2) (oi := { dst := some 12, op := Op.load 30 (Operand.tmp 2), type := 30, pos := "optim.go:39", after := #[], guard := none }) (v := .agg (tbl c pv).toArray) rfl (by kernel_rfl) (by kernel_rfl) (by kernel_rfl) (by kernel_rfl) (fun _ _ _ h => h) (yieldsIf_load_mid rfl 30 (.tmp 2) rfl (w.heap.size) 0 rfl (tbl c pv) _ (fun w hw => (hw.1 (by kernel_rfl))) huT rfl (hiT)) ?_; simp only [Act.put, List.setIfInBounds_toArray, List.set_cons_zero, List.set_cons_succ])
    refine Walk.three (i := 1) (j := 4) (l := 5) (oi := { dst := some 11, op := Op.call { callee := Callee.value (Operand.func 22), args := #[Operand.tmp 10], argTypes := #[22] }, type := 47, pos := "optim.go:39", after := #[{ on := 0, ground := Ground.data }], guard := none }) (oj := { dst := some 5, op := Op.alloc 47, type := 0, pos := "optim.go:39", after := #[], guard := none }) (ol := { dst := some 6, op := Op.alloc 35, type := 0, pos := "optim.go:39", after := #[], guard := none }) (by kernel_rfl) rfl rfl rfl (fun K hK => ?_) (fun K hK => ?_) (fun K hK => ?_)
    · go_simp; ((go_at_call 22; refine (counted_any ao cap o HOI.out hol hcap _ (HO.out.but kk.but)).mono ?_; rintro e y1 ⟨rfl, dd⟩; replace kk := kk.step dd; clear dd)); refine hK.out _ _ (⟨fun _ => (kk.get (b := w.heap.size) (t := 30) (c := tbl c pv) (by simp)).all, fun _ => trivial⟩) ?_; clear hK K; try simp only [Act.put, List.setIfInBounds_toArray, List.set_cons_zero, List.set_cons_succ]
      refine Walk.three (i := 3) (j := 4) (l := 5) (oi := { dst := some 13, op := Op.call { callee := Callee.value (Operand.func 13), args := #[Operand.tmp 12], argTypes := #[30] }, type := 35, pos := "optim.go:39", after := #[{ on := 2, ground := Ground.data }, { on := 1, ground := Ground.chain }], guard := none }) (oj := { dst := some 5, op := Op.alloc 47, type := 0, pos := "optim.go:39", after := #[], guard := none }) (ol := { dst := some 6, op := Op.alloc 35, type := 0, pos := "optim.go:39", after := #[], guard := none }) (by kernel_rfl) rfl rfl rfl (fun K hK => ?_) (fun K hK => ?_) (fun K hK => ?_)
      · go_simp; ((go_at_call 13; refine (codes_spec c pv l hI _ (HV.out.but kk.but) hx hl).mono ?_; rintro e y3 ⟨rfl, dd⟩; replace kk := kk.step dd; clear dd)); refine hK.out _ _ (⟨fun _ => (kk.get (b := w.heap.size) (t := 30) (c := tbl c pv) (by simp)).all, fun _ => trivial⟩) ?_; clear hK K; try simp only [Act.put, List.setIfInBounds_toArray, List.set_cons_zero, List.set_cons_succ]
        refine Walk.both (i := 4) (j := 5) (oi := { dst := some 5, op := Op.alloc 47, type := 0, pos := "optim.go:39", after := #[], guard := none }) (oj := { dst := some 6, op := Op.alloc 35, type := 0, pos := "optim.go:39", after := #[], guard := none }) (by kernel_rfl) rfl rfl (fun K hK => ?_) (fun K hK => ?_)
        · go_simp; (replace kk := kk.made 47 (tab .i64 257 (fun _ => 0))); refine hK.out _ _ (⟨fun _ => (kk.get (b := w.heap.size) (t := 30) (c := tbl c pv) (by simp)).all, fun _ => trivial⟩) ?_; clear hK K; try simp only [Act.put, List.setIfInBounds_toArray, List.set_cons_zero, List.set_cons_succ]
          revert kk
          obtain ⟨NA, hNA⟩ : ∃ n, y3.heap.size = n := ⟨_, rfl⟩
          rw [hNA]
          clear hNA
          generalize y3.alloc (.cells (tab .i64 257 (fun _ => 0)).toArray 47) = V1
          intro kk
          (refine Walk.go (i := 5) (o := { dst := some 6, op := Op.alloc 35, type := 0, pos := "optim.go:39", after := #[], guard := none }) (by kernel_rfl) rfl (fun K hK => ?_); go_simp; (replace kk := kk.made 35 (tab .i64 512 (fun _ => 0))); refine hK.out _ _ (⟨fun _ => (kk.get (b := w.heap.size) (t := 30) (c := tbl c pv) (by simp)).all, fun _ => trivial⟩) ?_; clear hK K; try simp only [Act.put, List.setIfInBounds_toArray, List.set_cons_zero, List.set_cons_succ])
          revert kk
          obtain ⟨NB, hNB⟩ : ∃ n, V1.heap.size = n := ⟨_, rfl⟩
          rw [hNB]
          clear hNB
          generalize V1.alloc (.cells (tab .i64 512 (fun _ => 0)).toArray 35) = V2
          intro kk
          have kA := kk.get (b := NA) (t := 47) (c := tab .i64 257 (fun _ => 0)) (by simp)
          have kB := kk.get (b := NB) (t := 35) (c := tab .i64 512 (fun _ => 0)) (by simp)
          have kT := (kk.get (b := w.heap.size) (t := 30) (c := tbl c pv) (by simp))
          have nA := kk.new (NA, 47, tab .i64 257 (fun _ => 0)) (by simp)
          have nB := kk.new (NB, 35, tab .i64 512 (fun _ => 0)) (by simp)
          simp only at nA nB
          have hb := kk.but
          have eAB : NB ≠ NA := kB.neT kA (by decide)
          have eAT : w.heap.size ≠ NA := kT.neT kA (by decide)
          have eBT : w.heap.size ≠ NB := kT.neT kB (by decide)
          have eBA : NA ≠ NB := fun e => eAB e.symm
          clear kk
          have hth := kA.there 0 (tab .i64 257 (wtF o)).toArray.size (by rw [List.size_toArray, tab_length, tab_length]; omega)
          (refine Walk.go (i := 6) (o := { dst := none, op := Op.store 47 (Operand.tmp 5) (Operand.tmp 11), type := 0, pos := "optim.go:39", after := #[{ on := 4, ground := Ground.data }, { on := 1, ground := Ground.data }, { on := 3, ground := Ground.chain }, { on := 0, ground := Ground.phase }, { on := 1, ground := Ground.phase }, { on := 2, ground := Ground.textOnly Departure.lateStores }, { on := 3, ground := Ground.textOnly Departure.lateStoresUnsure }, { on := 4, ground := Ground.phase }, { on := 5, ground := Ground.phase }], guard := none }) (by kernel_rfl) rfl (fun K hK => ?_); refine wp_store_mid 47 (.tmp 5) (.tmp 11) rfl NA 0 (tab .i64 257 (wtF o)).toArray rfl rfl hth (infoB257 _) (tab_all _ _ _) ?_; rw [List.toList_toArray]; (replace kA := kA.layAll (wtF o); have bA := But.setCells (S := fun x => x = NA) (tab .i64 257 (wtF o)) (But.refl (fun x => x = NA) V2) (fun _ => rfl) 0; replace kB := kB.but bA eAB; replace kT := kT.but bA eAT; replace hb := hb.setCells (b := NA) (tab .i64 257 (wtF o)) (fun q => absurd q (by omega)) 0; clear bA); refine hK.out _ _ (⟨fun _ => kT.all, fun _ => trivial⟩) ?_; clear hK K; try simp only [Act.put])
          clear hth
          revert kA kB kT hb
          generalize V2.setCells NA 0 (tab .i64 257 (wtF o)) = W6
          intro kA kB kT hb
          have hth2 := kB.there 0 (tab .i64 512 (both (codN c l) (codV c l))).toArray.size (by rw [List.size_toArray, tab_length, tab_length]; omega)
          (refine Walk.go (i := 7) (o := { dst := none, op := Op.store 35 (Operand.tmp 6) (Operand.tmp 13), type := 0, pos := "optim.go:39", after := #[{ on := 5, ground := Ground.data }, { on := 3, ground := Ground.data }, { on := 6, ground := Ground.chain }, { on := 0, ground := Ground.phase }, { on := 1, ground := Ground.phase }, { on := 2, ground := Ground.phase }, { on := 3, ground := Ground.phase }, { on := 4, ground := Ground.phase }, { on := 5, ground := Ground.phase }, { on := 6, ground := Ground.phase }], guard := none }) (by kernel_rfl) rfl (fun K hK => ?_); refine wp_store_mid 35 (.tmp 6) (.tmp 13) rfl NB 0 (tab .i64 512 (both (codN c l) (codV c l))).toArray rfl rfl hth2 (HBI.out _) (tab_all _ _ _) ?_; rw [List.toList_toArray]; (replace kB := kB.layAll (both (codN c l) (codV c l)); have bB := fun W => But.setCells (S := fun x => x = NB) (tab .i64 512 (both (codN c l) (codV c l))) (But.refl (fun x => x = NB) W) (fun _ => rfl) 0; replace kA := kA.but (bB _) eBA; replace kT := kT.but (bB _) eBT; replace hb := hb.setCells (b := NB) (tab .i64 512 (both (codN c l) (codV c l))) (fun q => absurd q (by omega)) 0; clear bB); refine hK.out _ _ (⟨fun _ => kT.all, fun _ => trivial⟩) ?_; clear hK K; try simp only [Act.put])
          clear hth2
          revert kA kB kT hb
          generalize W6.setCells NB 0 (tab .i64 512 (both (codN c l) (codV c l))) = W7
          intro kB kA kT hb
          refine Walk.done (by kernel_rfl) ?_ _
          have HE : Hid _ := And.intro kA (And.intro kB hb)
          clear kA kB kT hb eAB eAT eBT eBA nA nB hz hz5 hu huC huK huT hiT
          go_wp2_with fail
          go_meet
          case rel => exact ⟨NA, NB, rfl, rfl, HE.out⟩
        · go_simp; (replace kk := kk.made 35 (tab .i64 512 (fun _ => 0))); refine hK.out _ _ (⟨fun _ => (kk.get (b := w.heap.size) (t := 30) (c := tbl c pv) (by simp)).all, fun _ => trivial⟩) ?_; clear hK K; try simp only [Act.put, List.setIfInBounds_toArray, List.set_cons_zero, List.set_cons_succ]
          revert kk
          obtain ⟨NB, hNB⟩ : ∃ n, y3.heap.size = n := ⟨_, rfl⟩
          rw [hNB]
          clear hNB
          generalize y3.alloc (.cells (tab .i64 512 (fun _ => 0)).toArray 35) = V3
          intro kk
          (refine Walk.go (i := 4) (o := { dst := some 5, op := Op.alloc 47, type := 0, pos := "optim.go:39", after := #[], guard := none }) (by kernel_rfl) rfl (fun K hK => ?_); go_simp; (replace kk := kk.made 47 (tab .i64 257 (fun _ => 0))); refine hK.out _ _ (⟨fun _ => (kk.get (b := w.heap.size) (t := 30) (c := tbl c pv) (by simp)).all, fun _ => trivial⟩) ?_; clear hK K; try simp only [Act.put, List.setIfInBounds_toArray, List.set_cons_zero, List.set_cons_succ])
          revert kk
          obtain ⟨NA, hNA⟩ : ∃ n, V3.heap.size = n := ⟨_, rfl⟩
          rw [hNA]
          clear hNA
          generalize V3.alloc (.cells (tab .i64 257 (fun _ => 0)).toArray 47) = V4
          intro kk
          have kA := kk.get (b := NA) (t := 47) (c := tab .i64 257 (fun _ => 0)) (by simp)
          have kB := kk.get (b := NB) (t := 35) (c := tab .i64 512 (fun _ => 0)) (by simp)
          have kT := (kk.get (b := w.heap.size) (t := 30) (c := tbl c pv) (by simp))
          have nA := kk.new (NA, 47, tab .i64 257 (fun _ => 0)) (by simp)
          have nB := kk.new (NB, 35, tab .i64 512 (fun _ => 0)) (by simp)
          simp only at nA nB
          have hb := kk.but
          have eAB : NB ≠ NA := kB.neT kA (by decide)
          have eAT : w.heap.size ≠ NA := kT.neT kA (by decide)
          have eBT : w.heap.size ≠ NB := kT.neT kB (by decide)
          have eBA : NA ≠ NB := fun e => eAB e.symm
          clear kk
          have hth := kA.there 0 (tab .i64 257 (wtF o)).toArray.size (by rw [List.size_toArray, tab_length, tab_length]; omega)
          (refine Walk.go (i := 6) (o := { dst := none, op := Op.store 47 (Operand.tmp 5) (Operand.tmp 11), type := 0, pos := "optim.go:39", after := #[{ on := 4, ground := Ground.data }, { on := 1, ground := Ground.data }, { on := 3, ground := Ground.chain }, { on := 0, ground := Ground.phase }, { on := 1, ground := Ground.phase }, { on := 2, ground := Ground.textOnly Departure.lateStores }, { on := 3, ground := Ground.textOnly Departure.lateStoresUnsure }, { on := 4, ground := Ground.phase }, { on := 5, ground := Ground.phase }], guard := none }) (by kernel_rfl) rfl (fun K hK => ?_); refine wp_store_mid 47 (.tmp 5) (.tmp 11) rfl NA 0 (tab .i64 257 (wtF o)).toArray rfl rfl hth (infoB257 _) (tab_all _ _ _) ?_; rw [List.toList_toArray]; (replace kA := kA.layAll (wtF o); have bA := But.setCells (S := fun x => x = NA) (tab .i64 257 (wtF o)) (But.refl (fun x => x = NA) V4) (fun _ => rfl) 0; replace kB := kB.but bA eAB; replace kT := kT.but bA eAT; replace hb := hb.setCells (b := NA) (tab .i64 257 (wtF o)) (fun q => absurd q (by omega)) 0; clear bA); refine hK.out _ _ (⟨fun _ => kT.all, fun _ => trivial⟩) ?_; clear hK K; try simp only [Act.put])
          clear hth
          revert kA kB kT hb
          generalize V4.setCells NA 0 (tab .i64 257 (wtF o)) = W6
          intro kA kB kT hb
          have hth2 := kB.there 0 (tab .i64 512 (both (codN c l) (codV c l))).toArray.size (by rw [List.size_toArray, tab_length, tab_length]; omega)
          (refine Walk.go (i := 7) (o := { dst := none, op := Op.store 35 (Operand.tmp 6) (Operand.tmp 13), type := 0, pos := "optim.go:39", after := #[{ on := 5, ground := Ground.data }, { on := 3, ground := Ground.data }, { on := 6, ground := Ground.chain }, { on := 0, ground := Ground.phase }, { on := 1, ground := Ground.phase }, { on := 2, ground := Ground.phase }, { on := 3, ground := Ground.phase }, { on := 4, ground := Ground.phase }, { on := 5, ground := Ground.phase }, { on := 6, ground := Ground.phase }], guard := none }) (by kernel_rfl) rfl (fun K hK => ?_); refine wp_store_mid 35 (.tmp 6) (.tmp 13) rfl NB 0 (tab .i64 512 (both (codN c l) (codV c l))).toArray rfl rfl hth2 (HBI.out _) (tab_all _ _ _) ?_; rw [List.toList_toArray]; (replace kB := kB.layAll (both (codN c l) (codV c l)); have bB := fun W => But.setCells (S := fun x => x = NB) (tab .i64 512 (both (codN c l) (codV c l))) (But.refl (fun x => x = NB) W) (fun _ => rfl) 0; replace kA := kA.but (bB _) eBA; replace kT := kT.but (bB _) eBT; replace hb := hb.setCells (b := NB) (tab .i64 512 (both (codN c l) (codV c l))) (fun q => absurd q (by omega)) 0; clear bB); refine hK.out _ _ (⟨fun _ => kT.all, fun _ => trivial⟩) ?_; clear hK K; try simp only [Act.put])
          clear hth2
          revert kA kB kT hb
          generalize W6.setCells NB 0 (tab .i64 512 (both (codN c l) (codV c l))) = W7
          intro kB kA kT hb
          refine Walk.done (by kernel_rfl) ?_ _
          have HE : Hid _ := And.intro kA (And.intro kB hb)
          clear kA kB kT hb eAB eAT eBT eBA nA nB hz hz5 hu huC huK huT hiT
          go_wp2_with fail
          go_meet
          case rel => exact ⟨NA, NB, rfl, rfl, HE.out⟩
      · go_simp; (replace kk := kk.made 47 (tab .i64 257 (fun _ => 0))); refine hK.out _ _ (⟨fun _ => (kk.get (b := w.heap.size) (t := 30) (c := tbl c pv) (by simp)).all, fun _ => trivial⟩) ?_; clear hK K; try simp only [Act.put, List.setIfInBounds_toArray, List.set_cons_zero, List.set_cons_succ]
        revert kk
        obtain ⟨NA, hNA⟩ : ∃ n, y1.heap.size = n := ⟨_, rfl⟩
        rw [hNA]
        clear hNA
        generalize y1.alloc (.cells (tab .i64 257 (fun _ => 0)).toArray 47) = V5
        intro kk
        refine Walk.both (i := 3) (j := 5) (oi := { dst := some 13, op := Op.call { callee := Callee.value (Operand.func 13), args := #[Operand.tmp 12], argTypes := #[30] }, type := 35, pos := "optim.go:39", after := #[{ on := 2, ground := Ground.data }, { on := 1, ground := Ground.chain }], guard := none }) (oj := { dst := some 6, op := Op.alloc 35, type := 0, pos := "optim.go:39", after := #[], guard := none }) (by kernel_rfl) rfl rfl (fun K hK => ?_) (fun K hK => ?_)
        · go_simp; ((go_at_call 13; refine (codes_spec c pv l hI _ (HV.out.but kk.but) hx hl).mono ?_; rintro e y3 ⟨rfl, dd⟩; replace kk := kk.step dd; clear dd)); refine hK.out _ _ (⟨fun _ => (kk.get (b := w.heap.size) (t := 30) (c := tbl c pv) (by simp)).all, fun _ => trivial⟩) ?_; clear hK K; try simp only [Act.put, List.setIfInBounds_toArray, List.set_cons_zero, List.set_cons_succ]
          (refine Walk.go (i := 5) (o := { dst := some 6, op := Op.alloc 35, type := 0, pos := "optim.go:39", after := #[], guard := none }) (by kernel_rfl) rfl (fun K hK => ?_); go_simp; (replace kk := kk.made 35 (tab .i64 512 (fun _ => 0))); refine hK.out _ _ (⟨fun _ => (kk.get (b := w.heap.size) (t := 30) (c := tbl c pv) (by simp)).all, fun _ => trivial⟩) ?_; clear hK K; try simp only [Act.put, List.setIfInBounds_toArray, List.set_cons_zero, List.set_cons_succ])
          revert kk
          obtain ⟨NB, hNB⟩ : ∃ n, y3.heap.size = n := ⟨_, rfl⟩
          rw [hNB]
          clear hNB
          generalize y3.alloc (.cells (tab .i64 512 (fun _ => 0)).toArray 35) = V6
          intro kk
          have kA := kk.get (b := NA) (t := 47) (c := tab .i64 257 (fun _ => 0)) (by simp)
          have kB := kk.get (b := NB) (t := 35) (c := tab .i64 512 (fun _ => 0)) (by simp)
          have kT := (kk.get (b := w.heap.size) (t := 30) (c := tbl c pv) (by simp))
          have nA := kk.new (NA, 47, tab .i64 257 (fun _ => 0)) (by simp)
          have nB := kk.new (NB, 35, tab .i64 512 (fun _ => 0)) (by simp)
          simp only at nA nB
          have hb := kk.but
          have eAB : NB ≠ NA := kB.neT kA (by decide)
          have eAT : w.heap.size ≠ NA := kT.neT kA (by decide)
          have eBT : w.heap.size ≠ NB := kT.neT kB (by decide)
          have eBA : NA ≠ NB := fun e => eAB e.symm
          clear kk
          have hth := kA.there 0 (tab .i64 257 (wtF o)).toArray.size (by rw [List.size_toArray, tab_length, tab_length]; omega)
          (refine Walk.go (i := 6) (o := { dst := none, op := Op.store 47 (Operand.tmp 5) (Operand.tmp 11), type := 0, pos := "optim.go:39", after := #[{ on := 4, ground := Ground.data }, { on := 1, ground := Ground.data }, { on := 3, ground := Ground.chain }, { on := 0, ground := Ground.phase }, { on := 1, ground := Ground.phase }, { on := 2, ground := Ground.textOnly Departure.lateStores }, { on := 3, ground := Ground.textOnly Departure.lateStoresUnsure }, { on := 4, ground := Ground.phase }, { on := 5, ground := Ground.phase }], guard := none }) (by kernel_rfl) rfl (fun K hK => ?_); refine wp_store_mid 47 (.tmp 5) (.tmp 11) rfl NA 0 (tab .i64 257 (wtF o)).toArray rfl rfl hth (infoB257 _) (tab_all _ _ _) ?_; rw [List.toList_toArray]; (replace kA := kA.layAll (wtF o); have bA := But.setCells (S := fun x => x = NA) (tab .i64 257 (wtF o)) (But.refl (fun x => x = NA) V6) (fun _ => rfl) 0; replace kB := kB.but bA eAB; replace kT := kT.but bA eAT; replace hb := hb.setCells (b := NA) (tab .i64 257 (wtF o)) (fun q => absurd q (by omega)) 0; clear bA); refine hK.out _ _ (⟨fun _ => kT.all, fun _ => trivial⟩) ?_; clear hK K; try simp only [Act.put])
          clear hth
          revert kA kB kT hb
          generalize V6.setCells NA 0 (tab .i64 257 (wtF o)) = W6
          intro kA kB kT hb
          have hth2 := kB.there 0 (tab .i64 512 (both (codN c l) (codV c l))).toArray.size (by rw [List.size_toArray, tab_length, tab_length]; omega)
          (refine Walk.go (i := 7) (o := { dst := none, op := Op.store 35 (Operand.tmp 6) (Operand.tmp 13), type := 0, pos := "optim.go:39", after := #[{ on := 5, ground := Ground.data }, { on := 3, ground := Ground.data }, { on := 6, ground := Ground.chain }, { on := 0, ground := Ground.phase }, { on := 1, ground := Ground.phase }, { on := 2, ground := Ground.phase }, { on := 3, ground := Ground.phase }, { on := 4, ground := Ground.phase }, { on := 5, ground := Ground.phase }, { on := 6, ground := Ground.phase }], guard := none }) (by kernel_rfl) rfl (fun K hK => ?_); refine wp_store_mid 35 (.tmp 6) (.tmp 13) rfl NB 0 (tab .i64 512 (both (codN c l) (codV c l))).toArray rfl rfl hth2 (HBI.out _) (tab_all _ _ _) ?_; rw [List.toList_toArray]; (replace kB := kB.layAll (both (codN c l) (codV c l)); have bB := fun W => But.setCells (S := fun x => x = NB) (tab .i64 512 (both (codN c l) (codV c l))) (But.refl (fun x => x = NB) W) (fun _ => rfl) 0; replace kA := kA.but (bB _) eBA; replace kT := kT.but (bB _) eBT; replace hb := hb.setCells (b := NB) (tab .i64 512 (both (codN c l) (codV c l))) (fun q => absurd q (by omega)) 0; clear bB); refine hK.out _ _ (⟨fun _ => kT.all, fun _ => trivial⟩) ?_; clear hK K; try simp only [Act.put])
          clear hth2
          revert kA kB kT hb
          generalize W6.setCells NB 0 (tab .i64 512 (both (codN c l) (codV c l))) = W7
          intro kB kA kT hb
          refine Walk.done (by kernel_rfl) ?_ _
          have HE : Hid _ := And.intro kA (And.intro kB hb)
          clear kA kB kT hb eAB eAT eBT eBA nA nB hz hz5 hu huC huK huT hiT
          go_wp2_with fail
          go_meet
          case rel => exact ⟨NA, NB, rfl, rfl, HE.out⟩
        · go_simp; (replace kk := kk.made 35 (tab .i64 512 (fun _ => 0))); refine hK.out _ _ (⟨fun _ => (kk.get (b := w.heap.size) (t := 30) (c := tbl c pv) (by simp)).all, fun _ => trivial⟩) ?_; clear hK K; try simp only [Act.put, List.setIfInBounds_toArray, List.set_cons_zero, List.set_cons_succ]
          revert kk
          obtain ⟨NB, hNB⟩ : ∃ n, V5.heap.size = n := ⟨_, rfl⟩
          rw [hNB]
          clear hNB
          generalize V5.alloc (.cells (tab .i64 512 (fun _ => 0)).toArray 35) = V7
          intro kk
          (refine Walk.go (i := 3) (o := { dst := some 13, op := Op.call { callee := Callee.value (Operand.func 13), args := #[Operand.tmp 12], argTypes := #[30] }, type := 35, pos := "optim.go:39", after := #[{ on := 2, ground := Ground.data }, { on := 1, ground := Ground.chain }], guard := none }) (by kernel_rfl) rfl (fun K hK => ?_); go_simp; ((go_at_call 13; refine (codes_spec c pv l hI _ (HV.out.but kk.but) hx hl).mono ?_; rintro e y3 ⟨rfl, dd⟩; replace kk := kk.step dd; clear dd)); refine hK.out _ _ (⟨fun _ => (kk.get (b := w.heap.size) (t := 30) (c := tbl c pv) (by simp)).all, fun _ => trivial⟩) ?_; clear hK K; try simp only [Act.put, List.setIfInBounds_toArray, List.set_cons_zero, List.set_cons_succ])
          have kA := kk.get (b := NA) (t := 47) (c := tab .i64 257 (fun _ => 0)) (by simp)
          have kB := kk.get (b := NB) (t := 35) (c := tab .i64 512 (fun _ => 0)) (by simp)
          have kT := (kk.get (b := w.heap.size) (t := 30) (c := tbl c pv) (by simp))
          have nA := kk.new (NA, 47, tab .i64 257 (fun _ => 0)) (by simp)
          have nB := kk.new (NB, 35, tab .i64 512 (fun _ => 0)) (by simp)
          simp only at nA nB
          have hb := kk.but
          have eAB : NB ≠ NA := kB.neT kA (by decide)
          have eAT : w.heap.size ≠ NA := kT.neT kA (by decide)
          have eBT : w.heap.size ≠ NB := kT.neT kB (by decide)
          have eBA : NA ≠ NB := fun e => eAB e.symm
          clear kk
          have hth := kA.there 0 (tab .i64 257 (wtF o)).toArray.size (by rw [List.size_toArray, tab_length, tab_length]; omega)
          (refine Walk.go (i := 6) (o := { dst := none, op := Op.store 47 (Operand.tmp 5) (Operand.tmp 11), type := 0, pos := "optim.go:39", after := #[{ on := 4, ground := Ground.data }, { on := 1, ground := Ground.data }, { on := 3, ground := Ground.chain }, { on := 0, ground := Ground.phase }, { on := 1, ground := Ground.phase }, { on := 2, ground := Ground.textOnly Departure.lateStores }, { on := 3, ground := Ground.textOnly Departure.lateStoresUnsure }, { on := 4, ground := Ground.phase }, { on := 5, ground := Ground.phase }], guard := none }) (by kernel_rfl) rfl (fun K hK => ?_); refine wp_store_mid 47 (.tmp 5) (.tmp 11) rfl NA 0 (tab .i64 257 (wtF o)).toArray rfl rfl hth (infoB257 _) (tab_all _ _ _) ?_; rw [List.toList_toArray]; (replace kA := kA.layAll (wtF o); have bA := But.setCells (S := fun x => x = NA) (tab .i64 257 (wtF o)) (But.refl (fun x => x = NA) y3) (fun _ => rfl) 0; replace kB := kB.but bA eAB; replace kT := kT.but bA eAT; replace hb := hb.setCells (b := NA) (tab .i64 257 (wtF o)) (fun q => absurd q (by omega)) 0; clear bA); refine hK.out _ _ (⟨fun _ => kT.all, fun _ => trivial⟩) ?_; clear hK K; try simp only [Act.put])
          clear hth
          revert kA kB kT hb
          generalize y3.setCells NA 0 (tab .i64 257 (wtF o)) = W6
          intro kA kB kT hb
          have hth2 := kB.there 0 (tab .i64 512 (both (codN c l) (codV c l))).toArray.size (by rw [List.size_toArray, tab_length, tab_length]; omega)
          (refine Walk.go (i := 7) (o := { dst := none, op := Op.store 35 (Operand.tmp 6) (Operand.tmp 13), type := 0, pos := "optim.go:39", after := #[{ on := 5, ground := Ground.data }, { on := 3, ground := Ground.data }, { on := 6, ground := Ground.chain }, { on := 0, ground := Ground.phase }, { on := 1, ground := Ground.phase }, { on := 2, ground := Ground.phase }, { on := 3, ground := Ground.phase }, { on := 4, ground := Ground.phase }, { on := 5, ground := Ground.phase }, { on := 6, ground := Ground.phase }], guard := none }) (by kernel_rfl) rfl (fun K hK => ?_); refine wp_store_mid 35 (.tmp 6) (.tmp 13) rfl NB 0 (tab .i64 512 (both (codN c l) (codV c l))).toArray rfl rfl hth2 (HBI.out _) (tab_all _ _ _) ?_; rw [List.toList_toArray]; (replace kB := kB.layAll (both (codN c l) (codV c l)); have bB := fun W => But.setCells (S := fun x => x = NB) (tab .i64 512 (both (codN c l) (codV c l))) (But.refl (fun x => x = NB) W) (fun _ => rfl) 0; replace kA := kA.but (bB _) eBA; replace kT := kT.but (bB _) eBT; replace hb := hb.setCells (b := NB) (tab .i64 512 (both (codN c l) (codV c l))) (fun q => absurd q (by omega)) 0; clear bB); refine hK.out _ _ (⟨fun _ => kT.all, fun _ => trivial⟩) ?_; clear hK K; try simp only [Act.put])
          clear hth2
          revert kA kB kT hb
          generalize W6.setCells NB 0 (tab .i64 512 (both (codN c l) (codV c l))) = W7
          intro kB kA kT hb
          refine Walk.done (by kernel_rfl) ?_ _
          have HE : Hid _ := And.intro kA (And.intro kB hb)
          clear kA kB kT hb eAB eAT eBT eBA nA nB hz hz5 hu huC huK huT hiT
          go_wp2_with fail
          go_meet
          case rel => exact ⟨NA, NB, rfl, rfl, HE.out⟩
      · go_simp; (replace kk := kk.made 35 (tab .i64 512 (fun _ => 0))); refine hK.out _ _ (⟨fun _ => (kk.get (b := w.heap.size) (t := 30) (c := tbl c pv) (by simp)).all, fun _ => trivial⟩) ?_; clear hK K; try simp only [Act.put, List.setIfInBounds_toArray, List.set_cons_zero, List.set_cons_succ]
        revert kk
        obtain ⟨NB, hNB⟩ : ∃ n, y1.heap.size = n := ⟨_, rfl⟩
        rw [hNB]
        clear hNB
        generalize y1.alloc (.cells (tab .i64 512 (fun _ => 0)).toArray 35) = V8
        intro kk
        refine Walk.both (i := 3) (j := 4) (oi := { dst := some 13, op := Op.call { callee := Callee.value (Operand.func 13), args := #[Operand.tmp 12], argTypes := #[30] }, type := 35, pos := "optim.go:39", after := #[{ on := 2, ground := Ground.data }, { on := 1, ground := Ground.chain }], guard := none }) (oj := { dst := some 5, op := Op.alloc 47, type := 0, pos := "optim.go:39", after := #[], guard := none }) (by kernel_rfl) rfl rfl (fun K hK => ?_) (fun K hK => ?_)
        · go_simp; ((go_at_call 13; refine (codes_spec c pv l hI _ (HV.out.but kk.but) hx hl).mono ?_; rintro e y3 ⟨rfl, dd⟩; replace kk := kk.step dd; clear dd)); refine hK.out _ _ (⟨fun _ => (kk.get (b := w.heap.size) (t := 30) (c := tbl c pv) (by simp)).all, fun _ => trivial⟩) ?_; clear hK K; try simp only [Act.put, List.setIfInBounds_toArray, List.set_cons_zero, List.set_cons_succ]
          (refine Walk.go (i := 4) (o := { dst := some 5, op := Op.alloc 47, type := 0, pos := "optim.go:39", after := #[], guard := none }) (by kernel_rfl) rfl (fun K hK => ?_); go_simp; (replace kk := kk.made 47 (tab .i64 257 (fun _ => 0))); refine hK.out _ _ (⟨fun _ => (kk.get (b := w.heap.size) (t := 30) (c := tbl c pv) (by simp)).all, fun _ => trivial⟩) ?_; clear hK K; try simp only [Act.put, List.setIfInBounds_toArray, List.set_cons_zero, List.set_cons_succ])
          revert kk
          obtain ⟨NA, hNA⟩ : ∃ n, y3.heap.size = n := ⟨_, rfl⟩
          rw [hNA]
          clear hNA
          generalize y3.alloc (.cells (tab .i64 257 (fun _ => 0)).toArray 47) = V9
          intro kk
          have kA := kk.get (b := NA) (t := 47) (c := tab .i64 257 (fun _ => 0)) (by simp)
          have kB := kk.get (b := NB) (t := 35) (c := tab .i64 512 (fun _ => 0)) (by simp)
          have kT := (kk.get (b := w.heap.size) (t := 30) (c := tbl c pv) (by simp))
          have nA := kk.new (NA, 47, tab .i64 257 (fun _ => 0)) (by simp)
          have nB := kk.new (NB, 35, tab .i64 512 (fun _ => 0)) (by simp)
          simp only at nA nB
          have hb := kk.but
          have eAB : NB ≠ NA := kB.neT kA (by decide)
          have eAT : w.heap.size ≠ NA := kT.neT kA (by decide)
          have eBT : w.heap.size ≠ NB := kT.neT kB (by decide)
          have eBA : NA ≠ NB := fun e => eAB e.symm
          clear kk
          have hth := kA.there 0 (tab .i64 257 (wtF o)).toArray.size (by rw [List.size_toArray, tab_length, tab_length]; omega)
          (refine Walk.go (i := 6) (o := { dst := none, op := Op.store 47 (Operand.tmp 5) (Operand.tmp 11), type := 0, pos := "optim.go:39", after := #[{ on := 4, ground := Ground.data }, { on := 1, ground := Ground.data }, { on := 3, ground := Ground.chain }, { on := 0, ground := Ground.phase }, { on := 1, ground := Ground.phase }, { on := 2, ground := Ground.textOnly Departure.lateStores }, { on := 3, ground := Ground.textOnly Departure.lateStoresUnsure }, { on := 4, ground := Ground.phase }, { on := 5, ground := Ground.phase }], guard := none }) (by kernel_rfl) rfl (fun K hK => ?_); refine wp_store_mid 47 (.tmp 5) (.tmp 11) rfl NA 0 (tab .i64 257 (wtF o)).toArray rfl rfl hth (infoB257 _) (tab_all _ _ _) ?_; rw [List.toList_toArray]; (replace kA := kA.layAll (wtF o); have bA := But.setCells (S := fun x => x = NA) (tab .i64 257 (wtF o)) (But.refl (fun x => x = NA) V9) (fun _ => rfl) 0; replace kB := kB.but bA eAB; replace kT := kT.but bA eAT; replace hb := hb.setCells (b := NA) (tab .i64 257 (wtF o)) (fun q => absurd q (by omega)) 0; clear bA); refine hK.out _ _ (⟨fun _ => kT.all, fun _ => trivial⟩) ?_; clear hK K; try simp only [Act.put])
          clear hth
          revert kA kB kT hb
          generalize V9.setCells NA 0 (tab .i64 257 (wtF o)) = W6
          intro kA kB kT hb
          have hth2 := kB.there 0 (tab .i64 512 (both (codN c l) (codV c l))).toArray.size (by rw [List.size_toArray, tab_length, tab_length]; omega)
          (refine Walk.go (i := 7) (o := { dst := none, op := Op.store 35 (Operand.tmp 6) (Operand.tmp 13), type := 0, pos := "optim.go:39", after := #[{ on := 5, ground := Ground.data }, { on := 3, ground := Ground.data }, { on := 6, ground := Ground.chain }, { on := 0, ground := Ground.phase }, { on := 1, ground := Ground.phase }, { on := 2, ground := Ground.phase }, { on := 3, ground := Ground.phase }, { on := 4, ground := Ground.phase }, { on := 5, ground := Ground.phase }, { on := 6, ground := Ground.phase }], guard := none }) (by kernel_rfl) rfl (fun K hK => ?_); refine wp_store_mid 35 (.tmp 6) (.tmp 13) rfl NB 0 (tab .i64 512 (both (codN c l) (codV c l))).toArray rfl rfl hth2 (HBI.out _) (tab_all _ _ _) ?_; rw [List.toList_toArray]; (replace kB := kB.layAll (both (codN c l) (codV c l)); have bB := fun W => But.setCells (S := fun x => x = NB) (tab .i64 512 (both (codN c l) (codV c l))) (But.refl (fun x => x = NB) W) (fun _ => rfl) 0; replace kA := kA.but (bB _) eBA; replace kT := kT.but (bB _) eBT; replace hb := hb.setCells (b := NB) (tab .i64 512 (both (codN c l) (codV c l))) (fun q => absurd q (by omega)) 0; clear bB); refine hK.out _ _ (⟨fun _ => kT.all, fun _ => trivial⟩) ?_; clear hK K; try simp only [Act.put])
          clear hth2
          revert kA kB kT hb
          generalize W6.setCells NB 0 (tab .i64 512 (both (codN c l) (codV c l))) = W7
          intro kB kA kT hb
          refine Walk.done (by kernel_rfl) ?_ _
          have HE : Hid _ := And.intro kA (And.intro kB hb)
          clear kA kB kT hb eAB eAT eBT eBA nA nB hz hz5 hu huC huK huT hiT
          go_wp2_with fail
          go_meet
          case rel => exact ⟨NA, NB, rfl, rfl, HE.out⟩
        · go_simp; (replace kk := kk.made 47 (tab .i64 257 (fun _ => 0))); refine hK.out _ _ (⟨fun _ => (kk.get (b := w.heap.size) (t := 30) (c := tbl c pv) (by simp)).all, fun _ => trivial⟩) ?_; clear hK K; try simp only [Act.put, List.setIfInBounds_toArray, List.set_cons_zero, List.set_cons_succ]
          revert kk
          obtain ⟨NA, hNA⟩ : ∃ n, V8.heap.size = n := ⟨_, rfl⟩
          rw [hNA]
          clear hNA
          generalize V8.alloc (.cells (tab .i64 257 (fun _ => 0)).toArray 47) = V10
          intro kk
          (refine Walk.go (i := 3) (o := { dst := some 13, op := Op.call { callee := Callee.value (Operand.func 13), args := #[Operand.tmp 12], argTypes := #[30] }, type := 35, pos := "optim.go:39", after := #[{ on := 2, ground := Ground.data }, { on := 1, ground := Ground.chain }], guard := none }) (by kernel_rfl) rfl (fun K hK => ?_); go_simp; ((go_at_call 13; refine (codes_spec c pv l hI _ (HV.out.but kk.but) hx hl).mono ?_; rintro e y3 ⟨rfl, dd⟩; replace kk := kk.step dd; clear dd)); refine hK.out _ _ (⟨fun _ => (kk.get (b := w.heap.size) (t := 30) (c := tbl c pv) (by simp)).all, fun _ => trivial⟩) ?_; clear hK K; try simp only [Act.put, List.setIfInBounds_toArray, List.set_cons_zero, List.set_cons_succ])
          have kA := kk.get (b := NA) (t := 47) (c := tab .i64 257 (fun _ => 0)) (by simp)
          have kB := kk.get (b := NB) (t := 35) (c := tab .i64 512 (fun _ => 0)) (by simp)
          have kT := (kk.get (b := w.heap.size) (t := 30) (c := tbl c pv) (by simp))
          have nA := kk.new (NA, 47, tab .i64 257 (fun _ => 0)) (by simp)
          have nB := kk.new (NB, 35, tab .i64 512 (fun _ => 0)) (by simp)
          simp only at nA nB
          have hb := kk.but
          have eAB : NB ≠ NA := kB.neT kA (by decide)
          have eAT : w.heap.size ≠ NA := kT.neT kA (by decide)
          have eBT : w.heap.size ≠ NB := kT.neT kB (by decide)
          have eBA : NA ≠ NB := fun e => eAB e.symm
          clear kk
          have hth := kA.there 0 (tab .i64 257 (wtF o)).toArray.size (by rw [List.size_toArray, tab_length, tab_length]; omega)
          (refine Walk.go (i := 6) (o := { dst := none, op := Op.store 47 (Operand.tmp 5) (Operand.tmp 11), type := 0, pos := "optim.go:39", after := #[{ on := 4, ground := Ground.data }, { on := 1, ground := Ground.data }, { on := 3, ground := Ground.chain }, { on := 0, ground := Ground.phase }, { on := 1, ground := Ground.phase }, { on := 2, ground := Ground.textOnly Departure.lateStores }, { on := 3, ground := Ground.textOnly Departure.lateStoresUnsure }, { on := 4, ground := Ground.phase }, { on := 5, ground := Ground.phase }], guard := none }) (by kernel_rfl) rfl (fun K hK => ?_); refine wp_store_mid 47 (.tmp 5) (.tmp 11) rfl NA 0 (tab .i64 257 (wtF o)).toArray rfl rfl hth (infoB257 _) (tab_all _ _ _) ?_; rw [List.toList_toArray]; (replace kA := kA.layAll (wtF o); have bA := But.setCells (S := fun x => x = NA) (tab .i64 257 (wtF o)) (But.refl (fun x => x = NA) y3) (fun _ => rfl) 0; replace kB := kB.but bA eAB; replace kT := kT.but bA eAT; replace hb := hb.setCells (b := NA) (tab .i64 257 (wtF o)) (fun q => absurd q (by omega)) 0; clear bA); refine hK.out _ _ (⟨fun _ => kT.all, fun _ => trivial⟩) ?_; clear hK K; try simp only [Act.put])
          clear hth
          revert kA kB kT hb
          generalize y3.setCells NA 0 (tab .i64 257 (wtF o)) = W6
          intro kA kB kT hb
          have hth2 := kB.there 0 (tab .i64 512 (both (codN c l) (codV c l))).toArray.size (by rw [List.size_toArray, tab_length, tab_length]; omega)
          (refine Walk.go (i := 7) (o := { dst := none, op := Op.store 35 (Operand.tmp 6) (Operand.tmp 13), type := 0, pos := "optim.go:39", after := #[{ on := 5, ground := Ground.data }, { on := 3, ground := Ground.data }, { on := 6, ground := Ground.chain }, { on := 0, ground := Ground.phase }, { on := 1, ground := Ground.phase }, { on := 2, ground := Ground.phase }, { on := 3, ground := Ground.phase }, { on := 4, ground := Ground.phase }, { on := 5, ground := Ground.phase }, { on := 6, ground := Ground.phase }], guard := none }) (by kernel_rfl) rfl (fun K hK => ?_); refine wp_store_mid 35 (.tmp 6) (.tmp 13) rfl NB 0 (tab .i64 512 (both (codN c l) (codV c l))).toArray rfl rfl hth2 (HBI.out _) (tab_all _ _ _) ?_; rw [List.toList_toArray]; (replace kB := kB.layAll (both (codN c l) (codV c l)); have bB := fun W => But.setCells (S := fun x => x = NB) (tab .i64 512 (both (codN c l) (codV c l))) (But.refl (fun x => x = NB) W) (fun _ => rfl) 0; replace kA := kA.but (bB _) eBA; replace kT := kT.but (bB _) eBT; replace hb := hb.setCells (b := NB) (tab .i64 512 (both (codN c l) (codV c l))) (fun q => absurd q (by omega)) 0; clear bB); refine hK.out _ _ (⟨fun _ => kT.all, fun _ => trivial⟩) ?_; clear hK K; try simp only [Act.put])
          clear hth2
          revert kA kB kT hb
          generalize W6.setCells NB 0 (tab .i64 512 (both (codN c l) (codV c l))) = W7
          intro kB kA kT hb
          refine Walk.done (by kernel_rfl) ?_ _
          have HE : Hid _ := And.intro kA (And.intro kB hb)
          clear kA kB kT hb eAB eAT eBT eBA nA nB hz hz5 hu huC huK huT hiT
          go_wp2_with fail
          go_meet
          case rel => exact ⟨NA, NB, rfl, rfl, HE.out⟩
    · go_simp; (replace kk := kk.made 47 (tab .i64 257 (fun _ => 0))); refine hK.out _ _ (⟨fun _ => (kk.get (b := w.heap.size) (t := 30) (c := tbl c pv) (by simp)).all, fun _ => trivial⟩) ?_; clear hK K; try simp only [Act.put, List.setIfInBounds_toArray, List.set_cons_zero, List.set_cons_succ]
      revert kk
      obtain ⟨NA, hNA⟩ : ∃ n, WG.heap.size = n := ⟨_, rfl⟩
      rw [hNA]
      clear hNA
      generalize WG.alloc (.cells (tab .i64 257 (fun _ => 0)).toArray 47) = V11
      intro kk
      refine Walk.both (i := 1) (j := 5) (oi := { dst := some 11, op := Op.call { callee := Callee.value (Operand.func 22), args := #[Operand.tmp 10], argTypes := #[22] }, type := 47, pos := "optim.go:39", after := #[{ on := 0, ground := Ground.data }], guard := none }) (oj := { dst := some 6, op := Op.alloc 35, type := 0, pos := "optim.go:39", after := #[], guard := none }) (by kernel_rfl) rfl rfl (fun K hK => ?_) (fun K hK => ?_)
      · go_simp; ((go_at_call 22; refine (counted_any ao cap o HOI.out hol hcap _ (HO.out.but kk.but)).mono ?_; rintro e y1 ⟨rfl, dd⟩; replace kk := kk.step dd; clear dd)); refine hK.out _ _ (⟨fun _ => (kk.get (b := w.heap.size) (t := 30) (c := tbl c pv) (by simp)).all, fun _ => trivial⟩) ?_; clear hK K; try simp only [Act.put, List.setIfInBounds_toArray, List.set_cons_zero, List.set_cons_succ]
        refine Walk.both (i := 3) (j := 5) (oi := { dst := some 13, op := Op.call { callee := Callee.value (Operand.func 13), args := #[Operand.tmp 12], argTypes := #[30] }, type := 35, pos := "optim.go:39", after := #[{ on := 2, ground := Ground.data }, { on := 1, ground := Ground.chain }], guard := none }) (oj := { dst := some 6, op := Op.alloc 35, type := 0, pos := "optim.go:39", after := #[], guard := none }) (by kernel_rfl) rfl rfl (fun K hK => ?_) (fun K hK => ?_)
        · go_simp; ((go_at_call 13; refine (codes_spec c pv l hI _ (HV.out.but kk.but) hx hl).mono ?_; rintro e y3 ⟨rfl, dd⟩; replace kk := kk.step dd; clear dd)); refine hK.out _ _ (⟨fun _ => (kk.get (b := w.heap.size) (t := 30) (c := tbl c pv) (by simp)).all, fun _ => trivial⟩) ?_; clear hK K; try simp only [Act.put, List.setIfInBounds_toArray, List.set_cons_zero, List.set_cons_succ]
          (refine Walk.go (i := 5) (o := { dst := some 6, op := Op.alloc 35, type := 0, pos := "optim.go:39", after := #[], guard := none }) (by kernel_rfl) rfl (fun K hK => ?_); go_simp; (replace kk := kk.made 35 (tab .i64 512 (fun _ => 0))); refine hK.out _ _ (⟨fun _ => (kk.get (b := w.heap.size) (t := 30) (c := tbl c pv) (by simp)).all, fun _ => trivial⟩) ?_; clear hK K; try simp only [Act.put, List.setIfInBounds_toArray, List.set_cons_zero, List.set_cons_succ])
          revert kk
          obtain ⟨NB, hNB⟩ : ∃ n, y3.heap.size = n := ⟨_, rfl⟩
          rw [hNB]
          clear hNB
          generalize y3.alloc (.cells (tab .i64 512 (fun _ => 0)).toArray 35) = V12
          intro kk
          have kA := kk.get (b := NA) (t := 47) (c := tab .i64 257 (fun _ => 0)) (by simp)
          have kB := kk.get (b := NB) (t := 35) (c := tab .i64 512 (fun _ => 0)) (by simp)
          have kT := (kk.get (b := w.heap.size) (t := 30) (c := tbl c pv) (by simp))
          have nA := kk.new (NA, 47, tab .i64 257 (fun _ => 0)) (by simp)
          have nB := kk.new (NB, 35, tab .i64 512 (fun _ => 0)) (by simp)
          simp only at nA nB
          have hb := kk.but
          have eAB : NB ≠ NA := kB.neT kA (by decide)
          have eAT : w.heap.size ≠ NA := kT.neT kA (by decide)
          have eBT : w.heap.size ≠ NB := kT.neT kB (by decide)
          have eBA : NA ≠ NB := fun e => eAB e.symm
          clear kk
          have hth := kA.there 0 (tab .i64 257 (wtF o)).toArray.size (by rw [List.size_toArray, tab_length, tab_length]; omega)
          (refine Walk.go (i := 6) (o := { dst := none, op := Op.store 47 (Operand.tmp 5) (Operand.tmp 11), type := 0, pos := "optim.go:39", after := #[{ on := 4, ground := Ground.data }, { on := 1, ground := Ground.data }, { on := 3, ground := Ground.chain }, { on := 0, ground := Ground.phase }, { on := 1, ground := Ground.phase }, { on := 2, ground := Ground.textOnly Departure.lateStores }, { on := 3, ground := Ground.textOnly Departure.lateStoresUnsure }, { on := 4, ground := Ground.phase }, { on := 5, ground := Ground.phase }], guard := none }) (by kernel_rfl) rfl (fun K hK => ?_); refine wp_store_mid 47 (.tmp 5) (.tmp 11) rfl NA 0 (tab .i64 257 (wtF o)).toArray rfl rfl hth (infoB257 _) (tab_all _ _ _) ?_; rw [List.toList_toArray]; (replace kA := kA.layAll (wtF o); have bA := But.setCells (S := fun x => x = NA) (tab .i64 257 (wtF o)) (But.refl (fun x => x = NA) V12) (fun _ => rfl) 0; replace kB := kB.but bA eAB; replace kT := kT.but bA eAT; replace hb := hb.setCells (b := NA) (tab .i64 257 (wtF o)) (fun q => absurd q (by omega)) 0; clear bA); refine hK.out _ _ (⟨fun _ => kT.all, fun _ => trivial⟩) ?_; clear hK K; try simp only [Act.put])
          clear hth
          revert kA kB kT hb
          generalize V12.setCells NA 0 (tab .i64 257 (wtF o)) = W6
          intro kA kB kT hb
          have hth2 := kB.there 0 (tab .i64 512 (both (codN c l) (codV c l))).toArray.size (by rw [List.size_toArray, tab_length, tab_length]; omega)
          (refine Walk.go (i := 7) (o := { dst := none, op := Op.store 35 (Operand.tmp 6) (Operand.tmp 13), type := 0, pos := "optim.go:39", after := #[{ on := 5, ground := Ground.data }, { on := 3, ground := Ground.data }, { on := 6, ground := Ground.chain }, { on := 0, ground := Ground.phase }, { on := 1, ground := Ground.phase }, { on := 2, ground := Ground.phase }, { on := 3, ground := Ground.phase }, { on := 4, ground := Ground.phase }, { on := 5, ground := Ground.phase }, { on := 6, ground := Ground.phase }], guard := none }) (by kernel_rfl) rfl (fun K hK => ?_); refine wp_store_mid 35 (.tmp 6) (.tmp 13) rfl NB 0 (tab .i64 512 (both (codN c l) (codV c l))).toArray rfl rfl hth2 (HBI.out _) (tab_all _ _ _) ?_; rw [List.toList_toArray]; (replace kB := kB.layAll (both (codN c l) (codV c l)); have bB := fun W => But.setCells (S := fun x => x = NB) (tab .i64 512 (both (codN c l) (codV c l))) (But.refl (fun x => x = NB) W) (fun _ => rfl) 0; replace kA := kA.but (bB _) eBA; replace kT := kT.but (bB _) eBT; replace hb := hb.setCells (b := NB) (tab .i64 512 (both (codN c l) (codV c l))) (fun q => absurd q (by omega)) 0; clear bB); refine hK.out _ _ (⟨fun _ => kT.all, fun _ => trivial⟩) ?_; clear hK K; try simp only [Act.put])
          clear hth2
          revert kA kB kT hb
          generalize W6.setCells NB 0 (tab .i64 512 (both (codN c l) (codV c l))) = W7
          intro kB kA kT hb
          refine Walk.done (by kernel_rfl) ?_ _
          have HE : Hid _ := And.intro kA (And.intro kB hb)
          clear kA kB kT hb eAB eAT eBT eBA nA nB hz hz5 hu huC huK huT hiT
          go_wp2_with fail
          go_meet
          case rel => exact ⟨NA, NB, rfl, rfl, HE.out⟩
        · go_simp; (replace kk := kk.made 35 (tab .i64 512 (fun _ => 0))); refine hK.out _ _ (⟨fun _ => (kk.get (b := w.heap.size) (t := 30) (c := tbl c pv) (by simp)).all, fun _ => trivial⟩) ?_; clear hK K; try simp only [Act.put, List.setIfInBounds_toArray, List.set_cons_zero, List.set_cons_succ]
          revert kk
          obtain ⟨NB, hNB⟩ : ∃ n, y1.heap.size = n := ⟨_, rfl⟩
          rw [hNB]
          clear hNB
          generalize y1.alloc (.cells (tab .i64 512 (fun _ => 0)).toArray 35) = V13
          intro kk
          (refine Walk.go (i := 3) (o := { dst := some 13, op := Op.call { callee := Callee.value (Operand.func 13), args := #[Operand.tmp 12], argTypes := #[30] }, type := 35, pos := "optim.go:39", after := #[{ on := 2, ground := Ground.data }, { on := 1, ground := Ground.chain }], guard := none }) (by kernel_rfl) rfl (fun K hK => ?_); go_simp; ((go_at_call 13; refine (codes_spec c pv l hI _ (HV.out.but kk.but) hx hl).mono ?_; rintro e y3 ⟨rfl, dd⟩; replace kk := kk.step dd; clear dd)); refine hK.out _ _ (⟨fun _ => (kk.get (b := w.heap.size) (t := 30) (c := tbl c pv) (by simp)).all, fun _ => trivial⟩) ?_; clear hK K; try simp only [Act.put, List.setIfInBounds_toArray, List.set_cons_zero, List.set_cons_succ])
          have kA := kk.get (b := NA) (t := 47) (c := tab .i64 257 (fun _ => 0)) (by simp)
          have kB := kk.get (b := NB) (t := 35) (c := tab .i64 512 (fun _ => 0)) (by simp)
          have kT := (kk.get (b := w.heap.size) (t := 30) (c := tbl c pv) (by simp))
          have nA := kk.new (NA, 47, tab .i64 257 (fun _ => 0)) (by simp)
          have nB := kk.new (NB, 35, tab .i64 512 (fun _ => 0)) (by simp)
          simp only at nA nB
          have hb := kk.but
          have eAB : NB ≠ NA := kB.neT kA (by decide)
          have eAT : w.heap.size ≠ NA := kT.neT kA (by decide)
          have eBT : w.heap.size ≠ NB := kT.neT kB (by decide)
          have eBA : NA ≠ NB := fun e => eAB e.symm
          clear kk
          have hth := kA.there 0 (tab .i64 257 (wtF o)).toArray.size (by rw [List.size_toArray, tab_length, tab_length]; omega)
          (refine Walk.go (i := 6) (o := { dst := none, op := Op.store 47 (Operand.tmp 5) (Operand.tmp 11), type := 0, pos := "optim.go:39", after := #[{ on := 4, ground := Ground.data }, { on := 1, ground := Ground.data }, { on := 3, ground := Ground.chain }, { on := 0, ground := Ground.phase }, { on := 1, ground := Ground.phase }, { on := 2, ground := Ground.textOnly Departure.lateStores }, { on := 3, ground := Ground.textOnly Departure.lateStoresUnsure }, { on := 4, ground := Ground.phase }, { on := 5, ground := Ground.phase }], guard := none }) (by kernel_rfl) rfl (fun K hK => ?_); refine wp_store_mid 47 (.tmp 5) (.tmp 11) rfl NA 0 (tab .i64 257 (wtF o)).toArray rfl rfl hth (infoB257 _) (tab_all _ _ _) ?_; rw [List.toList_toArray]; (replace kA := kA.layAll (wtF o); have bA := But.setCells (S := fun x => x = NA) (tab .i64 257 (wtF o)) (But.refl (fun x => x = NA) y3) (fun _ => rfl) 0; replace kB := kB.but bA eAB; replace kT := kT.but bA eAT; replace hb := hb.setCells (b := NA) (tab .i64 257 (wtF o)) (fun q => absurd q (by omega)) 0; clear bA); refine hK.out _ _ (⟨fun _ => kT.all, fun _ => trivial⟩) ?_; clear hK K; try simp only [Act.put])
          clear hth
          revert kA kB kT hb
          generalize y3.setCells NA 0 (tab .i64 257 (wtF o)) = W6
          intro kA kB kT hb
          have hth2 := kB.there 0 (tab .i64 512 (both (codN c l) (codV c l))).toArray.size (by rw [List.size_toArray, tab_length, tab_length]; omega)
          (refine Walk.go (i := 7) (o := { dst := none, op := Op.store 35 (Operand.tmp 6) (Operand.tmp 13), type := 0, pos := "optim.go:39", after := #[{ on := 5, ground := Ground.data }, { on := 3, ground := Ground.data }, { on := 6, ground := Ground.chain }, { on := 0, ground := Ground.phase }, { on := 1, ground := Ground.phase }, { on := 2, ground := Ground.phase }, { on := 3, ground := Ground.phase }, { on := 4, ground := Ground.phase }, { on := 5, ground := Ground.phase }, { on := 6, ground := Ground.phase }], guard := none }) (by kernel_rfl) rfl (fun K hK => ?_); refine wp_store_mid 35 (.tmp 6) (.tmp 13) rfl NB 0 (tab .i64 512 (both (codN c l) (codV c l))).toArray rfl rfl hth2 (HBI.out _) (tab_all _ _ _) ?_; rw [List.toList_toArray]; (replace kB := kB.layAll (both (codN c l) (codV c l)); have bB := fun W => But.setCells (S := fun x => x = NB) (tab .i64 512 (both (codN c l) (codV c l))) (But.refl (fun x => x = NB) W) (fun _ => rfl) 0; replace kA := kA.but (bB _) eBA; replace kT := kT.but (bB _) eBT; replace hb := hb.setCells (b := NB) (tab .i64 512 (both (codN c l) (codV c l))) (fun q => absurd q (by omega)) 0; clear bB); refine hK.out _ _ (⟨fun _ => kT.all, fun _ => trivial⟩) ?_; clear hK K; try simp only [Act.put])
          clear hth2
          revert kA kB kT hb
          generalize W6.setCells NB 0 (tab .i64 512 (both (codN c l) (codV c l))) = W7
          intro kB kA kT hb
          refine Walk.done (by kernel_rfl) ?_ _
          have HE : Hid _ := And.intro kA (And.intro kB hb)
          clear kA kB kT hb eAB eAT eBT eBA nA nB hz hz5 hu huC huK huT hiT
          go_wp2_with fail
          go_meet
          case rel => exact ⟨NA, NB, rfl, rfl, HE.out⟩
      · go_simp; (replace kk := kk.made 35 (tab .i64 512 (fun _ => 0))); refine hK.out _ _ (⟨fun _ => (kk.get (b := w.heap.size) (t := 30) (c := tbl c pv) (by simp)).all, fun _ => trivial⟩) ?_; clear hK K; try simp only [Act.put, List.setIfInBounds_toArray, List.set_cons_zero, List.set_cons_succ]
        revert kk
        obtain ⟨NB, hNB⟩ : ∃ n, V11.heap.size = n := ⟨_, rfl⟩
        rw [hNB]
        clear hNB
        generalize V11.alloc (.cells (tab .i64 512 (fun _ => 0)).toArray 35) = V14
        intro kk
        (refine Walk.go (i := 1) (o := { dst := some 11, op := Op.call { callee := Callee.value (Operand.func 22), args := #[Operand.tmp 10], argTypes := #[22] }, type := 47, pos := "optim.go:39", after := #[{ on := 0, ground := Ground.data }], guard := none }) (by kernel_rfl) rfl (fun K hK => ?_); go_simp; ((go_at_call 22; refine (counted_any ao cap o HOI.out hol hcap _ (HO.out.but kk.but)).mono ?_; rintro e y1 ⟨rfl, dd⟩; replace kk := kk.step dd; clear dd)); refine hK.out _ _ (⟨fun _ => (kk.get (b := w.heap.size) (t := 30) (c := tbl c pv) (by simp)).all, fun _ => trivial⟩) ?_; clear hK K; try simp only [Act.put, List.setIfInBounds_toArray, List.set_cons_zero, List.set_cons_succ])
        (refine Walk.go (i := 3) (o := { dst := some 13, op := Op.call { callee := Callee.value (Operand.func 13), args := #[Operand.tmp 12], argTypes := #[30] }, type := 35, pos := "optim.go:39", after := #[{ on := 2, ground := Ground.data }, { on := 1, ground := Ground.chain }], guard := none }) (by kernel_rfl) rfl (fun K hK => ?_); go_simp; ((go_at_call 13; refine (codes_spec c pv l hI _ (HV.out.but kk.but) hx hl).mono ?_; rintro e y3 ⟨rfl, dd⟩; replace kk := kk.step dd; clear dd)); refine hK.out _ _ (⟨fun _ => (kk.get (b := w.heap.size) (t := 30) (c := tbl c pv) (by simp)).all, fun _ => trivial⟩) ?_; clear hK K; try simp only [Act.put, List.setIfInBounds_toArray, List.set_cons_zero, List.set_cons_succ])
        have kA := kk.get (b := NA) (t := 47) (c := tab .i64 257 (fun _ => 0)) (by simp)
        have kB := kk.get (b := NB) (t := 35) (c := tab .i64 512 (fun _ => 0)) (by simp)
        have kT := (kk.get (b := w.heap.size) (t := 30) (c := tbl c pv) (by simp))
        have nA := kk.new (NA, 47, tab .i64 257 (fun _ => 0)) (by simp)
        have nB := kk.new (NB, 35, tab .i64 512 (fun _ => 0)) (by simp)
        simp only at nA nB
        have hb := kk.but
        have eAB : NB ≠ NA := kB.neT kA (by decide)
        have eAT : w.heap.size ≠ NA := kT.neT kA (by decide)
        have eBT : w.heap.size ≠ NB := kT.neT kB (by decide)
        have eBA : NA ≠ NB := fun e => eAB e.symm
        clear kk
        have hth := kA.there 0 (tab .i64 257 (wtF o)).toArray.size (by rw [List.size_toArray, tab_length, tab_length]; omega)
        (refine Walk.go (i := 6) (o := { dst := none, op := Op.store 47 (Operand.tmp 5) (Operand.tmp 11), type := 0, pos := "optim.go:39", after := #[{ on := 4, ground := Ground.data }, { on := 1, ground := Ground.data }, { on := 3, ground := Ground.chain }, { on := 0, ground := Ground.phase }, { on := 1, ground := Ground.phase }, { on := 2, ground := Ground.textOnly Departure.lateStores }, { on := 3, ground := Ground.textOnly Departure.lateStoresUnsure }, { on := 4, ground := Ground.phase }, { on := 5, ground := Ground.phase }], guard := none }) (by kernel_rfl) rfl (fun K hK => ?_); refine wp_store_mid 47 (.tmp 5) (.tmp 11) rfl NA 0 (tab .i64 257 (wtF o)).toArray rfl rfl hth (infoB257 _) (tab_all _ _ _) ?_; rw [List.toList_toArray]; (replace kA := kA.layAll (wtF o); have bA := But.setCells (S := fun x => x = NA) (tab .i64 257 (wtF o)) (But.refl (fun x => x = NA) y3) (fun _ => rfl) 0; replace kB := kB.but bA eAB; replace kT := kT.but bA eAT; replace hb := hb.setCells (b := NA) (tab .i64 257 (wtF o)) (fun q => absurd q (by omega)) 0; clear bA); refine hK.out _ _ (⟨fun _ => kT.all, fun _ => trivial⟩) ?_; clear hK K; try simp only [Act.put])
        clear hth
        revert kA kB kT hb
        generalize y3.setCells NA 0 (tab .i64 257 (wtF o)) = W6
        intro kA kB kT hb
        have hth2 := kB.there 0 (tab .i64 512 (both (codN c l) (codV c l))).toArray.size (by rw [List.size_toArray, tab_length, tab_length]; omega)
        (refine Walk.go (i := 7) (o := { dst := none, op := Op.store 35 (Operand.tmp 6) (Operand.tmp 13), type := 0, pos := "optim.go:39", after := #[{ on := 5, ground := Ground.data }, { on := 3, ground := Ground.data }, { on := 6, ground := Ground.chain }, { on := 0, ground := Ground.phase }, { on := 1, ground := Ground.phase }, { on := 2, ground := Ground.phase }, { on := 3, ground := Ground.phase }, { on := 4, ground := Ground.phase }, { on := 5, ground := Ground.phase }, { on := 6, ground := Ground.phase }], guard := none }) (by kernel_rfl) rfl (fun K hK => ?_); refine wp_store_mid 35 (.tmp 6) (.tmp 13) rfl NB 0 (tab .i64 512 (both (codN c l) (codV c l))).toArray rfl rfl hth2 (HBI.out _) (tab_all _ _ _) ?_; rw [List.toList_toArray]; (replace kB := kB.layAll (both (codN c l) (codV c l)); have bB := fun W => But.setCells (S := fun x => x = NB) (tab .i64 512 (both (codN c l) (codV c l))) (But.refl (fun x => x = NB) W) (fun _ => rfl) 0; replace kA := kA.but (bB _) eBA; replace kT := kT.but (bB _) eBT; replace hb := hb.setCells (b := NB) (tab .i64 512 (both (codN c l) (codV c l))) (fun q => absurd q (by omega)) 0; clear bB); refine hK.out _ _ (⟨fun _ => kT.all, fun _ => trivial⟩) ?_; clear hK K; try simp only [Act.put])
        clear hth2
        revert kA kB kT hb
        generalize W6.setCells NB 0 (tab .i64 512 (both (codN c l) (codV c l))) = W7
        intro kB kA kT hb
        refine Walk.done (by kernel_rfl) ?_ _
        have HE : Hid _ := And.intro kA (And.intro kB hb)
        clear kA kB kT hb eAB eAT eBT eBA nA nB hz hz5 hu huC huK huT hiT
        go_wp2_with fail
        go_meet
        case rel => exact ⟨NA, NB, rfl, rfl, HE.out⟩
    · go_simp; (replace kk := kk.made 35 (tab .i64 512 (fun _ => 0))); refine hK.out _ _ (⟨fun _ => (kk.get (b := w.heap.size) (t := 30) (c := tbl c pv) (by simp)).all, fun _ => trivial⟩) ?_; clear hK K; try simp only [Act.put, List.setIfInBounds_toArray, List.set_cons_zero, List.set_cons_succ]
      revert kk
      obtain ⟨NB, hNB⟩ : ∃ n, WG.heap.size = n := ⟨_, rfl⟩
      rw [hNB]
      clear hNB
      generalize WG.alloc (.cells (tab .i64 512 (fun _ => 0)).toArray 35) = V15
      intro kk
      refine Walk.both (i := 1) (j := 4) (oi := { dst := some 11, op := Op.call { callee := Callee.value (Operand.func 22), args := #[Operand.tmp 10], argTypes := #[22] }, type := 47, pos := "optim.go:39", after := #[{ on := 0, ground := Ground.data }], guard := none }) (oj := { dst := some 5, op := Op.alloc 47, type := 0, pos := "optim.go:39", after := #[], guard := none }) (by kernel_rfl) rfl rfl (fun K hK => ?_) (fun K hK => ?_)
      · go_simp; ((go_at_call 22; refine (counted_any ao cap o HOI.out hol hcap _ (HO.out.but kk.but)).mono ?_; rintro e y1 ⟨rfl, dd⟩; replace kk := kk.step dd; clear dd)); refine hK.out _ _ (⟨fun _ => (kk.get (b := w.heap.size) (t := 30) (c := tbl c pv) (by simp)).all, fun _ => trivial⟩) ?_; clear hK K; try simp only [Act.put, List.setIfInBounds_toArray, List.set_cons_zero, List.set_cons_succ]
        refine Walk.both (i := 3) (j := 4) (oi := { dst := some 13, op := Op.call { callee := Callee.value (Operand.func 13), args := #[Operand.tmp 12], argTypes := #[30] }, type := 35, pos := "optim.go:39", after := #[{ on := 2, ground := Ground.data }, { on := 1, ground := Ground.chain }], guard := none }) (oj := { dst := some 5, op := Op.alloc 47, type := 0, pos := "optim.go:39", after := #[], guard := none }) (by kernel_rfl) rfl rfl (fun K hK => ?_) (fun K hK => ?_)
        · go_simp; ((go_at_call 13; refine (codes_spec c pv l hI _ (HV.out.but kk.but) hx hl).mono ?_; rintro e y3 ⟨rfl, dd⟩; replace kk := kk.step dd; clear dd)); refine hK.out _ _ (⟨fun _ => (kk.get (b := w.heap.size) (t := 30) (c := tbl c pv) (by simp)).all, fun _ => trivial⟩) ?_; clear hK K; try simp only [Act.put, List.setIfInBounds_toArray, List.set_cons_zero, List.set_cons_succ]
          (refine Walk.go (i := 4) (o := { dst := some 5, op := Op.alloc 47, type := 0, pos := "optim.go:39", after := #[], guard := none }) (by kernel_rfl) rfl (fun K hK => ?_); go_simp; (replace kk := kk.made 47 (tab .i64 257 (fun _ => 0))); refine hK.out _ _ (⟨fun _ => (kk.get (b := w.heap.size) (t := 30) (c := tbl c pv) (by simp)).all, fun _ => trivial⟩) ?_; clear hK K; try simp only [Act.put, List.setIfInBounds_toArray, List.set_cons_zero, List.set_cons_succ])
          revert kk
          obtain ⟨NA, hNA⟩ : ∃ n, y3.heap.size = n := ⟨_, rfl⟩
          rw [hNA]
          clear hNA
          generalize y3.alloc (.cells (tab .i64 257 (fun _ => 0)).toArray 47) = V16
          intro kk
          have kA := kk.get (b := NA) (t := 47) (c := tab .i64 257 (fun _ => 0)) (by simp)
          have kB := kk.get (b := NB) (t := 35) (c := tab .i64 512 (fun _ => 0)) (by simp)
          have kT := (kk.get (b := w.heap.size) (t := 30) (c := tbl c pv) (by simp))
          have nA := kk.new (NA, 47, tab .i64 257 (fun _ => 0)) (by simp)
          have nB := kk.new (NB, 35, tab .i64 512 (fun _ => 0)) (by simp)
          simp only at nA nB
          have hb := kk.but
          have eAB : NB ≠ NA := kB.neT kA (by decide)
          have eAT : w.heap.size ≠ NA := kT.neT kA (by decide)
          have eBT : w.heap.size ≠ NB := kT.neT kB (by decide)
          have eBA : NA ≠ NB := fun e => eAB e.symm
          clear kk
          have hth := kA.there 0 (tab .i64 257 (wtF o)).toArray.size (by rw [List.size_toArray, tab_length, tab_length]; omega)
          (refine Walk.go (i := 6) (o := { dst := none, op := Op.store 47 (Operand.tmp 5) (Operand.tmp 11), type := 0, pos := "optim.go:39", after := #[{ on := 4, ground := Ground.data }, { on := 1, ground := Ground.data }, { on := 3, ground := Ground.chain }, { on := 0, ground := Ground.phase }, { on := 1, ground := Ground.phase }, { on := 2, ground := Ground.textOnly Departure.lateStores }, { on := 3, ground := Ground.textOnly Departure.lateStoresUnsure }, { on := 4, ground := Ground.phase }, { on := 5, ground := Ground.phase }], guard := none }) (by kernel_rfl) rfl (fun K hK => ?_); refine wp_store_mid 47 (.tmp 5) (.tmp 11) rfl NA 0 (tab .i64 257 (wtF o)).toArray rfl rfl hth (infoB257 _) (tab_all _ _ _) ?_; rw [List.toList_toArray]; (replace kA := kA.layAll (wtF o); have bA := But.setCells (S := fun x => x = NA) (tab .i64 257 (wtF o)) (But.refl (fun x => x = NA) V16) (fun _ => rfl) 0; replace kB := kB.but bA eAB; replace kT := kT.but bA eAT; replace hb := hb.setCells (b := NA) (tab .i64 257 (wtF o)) (fun q => absurd q (by omega)) 0; clear bA); refine hK.out _ _ (⟨fun _ => kT.all, fun _ => trivial⟩) ?_; clear hK K; try simp only [Act.put])
          clear hth
          revert kA kB kT hb
          generalize V16.setCells NA 0 (tab .i64 257 (wtF o)) = W6
          intro kA kB kT hb
          have hth2 := kB.there 0 (tab .i64 512 (both (codN c l) (codV c l))).toArray.size (by rw [List.size_toArray, tab_length, tab_length]; omega)
          (refine Walk.go (i := 7) (o := { dst := none, op := Op.store 35 (Operand.tmp 6) (Operand.tmp 13), type := 0, pos := "optim.go:39", after := #[{ on := 5, ground := Ground.data }, { on := 3, ground := Ground.data }, { on := 6, ground := Ground.chain }, { on := 0, ground := Ground.phase }, { on := 1, ground := Ground.phase }, { on := 2, ground := Ground.phase }, { on := 3, ground := Ground.phase }, { on := 4, ground := Ground.phase }, { on := 5, ground := Ground.phase }, { on := 6, ground := Ground.phase }], guard := none }) (by kernel_rfl) rfl (fun K hK => ?_); refine wp_store_mid 35 (.tmp 6) (.tmp 13) rfl NB 0 (tab .i64 512 (both (codN c l) (codV c l))).toArray rfl rfl hth2 (HBI.out _) (tab_all _ _ _) ?_; rw [List.toList_toArray]; (replace kB := kB.layAll (both (codN c l) (codV c l)); have bB := fun W => But.setCells (S := fun x => x = NB) (tab .i64 512 (both (codN c l) (codV c l))) (But.refl (fun x => x = NB) W) (fun _ => rfl) 0; replace kA := kA.but (bB _) eBA; replace kT := kT.but (bB _) eBT; replace hb := hb.setCells (b := NB) (tab .i64 512 (both (codN c l) (codV c l))) (fun q => absurd q (by omega)) 0; clear bB); refine hK.out _ _ (⟨fun _ => kT.all, fun _ => trivial⟩) ?_; clear hK K; try simp only [Act.put])
          clear hth2
          revert kA kB kT hb
          generalize W6.setCells NB 0 (tab .i64 512 (both (codN c l) (codV c l))) = W7
          intro kB kA kT hb
          refine Walk.done (by kernel_rfl) ?_ _
          have HE : Hid _ := And.intro kA (And.intro kB hb)
          clear kA kB kT hb eAB eAT eBT eBA nA nB hz hz5 hu huC huK huT hiT
          go_wp2_with fail
          go_meet
          case rel => exact ⟨NA, NB, rfl, rfl, HE.out⟩
        · go_simp; (replace kk := kk.made 47 (tab .i64 257 (fun _ => 0))); refine hK.out _ _ (⟨fun _ => (kk.get (b := w.heap.size) (t := 30) (c := tbl c pv) (by simp)).all, fun _ => trivial⟩) ?_; clear hK K; try simp only [Act.put, List.setIfInBounds_toArray, List.set_cons_zero, List.set_cons_succ]
          revert kk
          obtain ⟨NA, hNA⟩ : ∃ n, y1.heap.size = n := ⟨_, rfl⟩
          rw [hNA]
          clear hNA
          generalize y1.alloc (.cells (tab .i64 257 (fun _ => 0)).toArray 47) = V17
          intro kk
          (refine Walk.go (i := 3) (o := { dst := some 13, op := Op.call { callee := Callee.value (Operand.func 13), args := #[Operand.tmp 12], argTypes := #[30] }, type := 35, pos := "optim.go:39", after := #[{ on := 2, ground := Ground.data }, { on := 1, ground := Ground.chain }], guard := none }) (by kernel_rfl) rfl (fun K hK => ?_); go_simp; ((go_at_call 13; refine (codes_spec c pv l hI _ (HV.out.but kk.but) hx hl).mono ?_; rintro e y3 ⟨rfl, dd⟩; replace kk := kk.step dd; clear dd)); refine hK.out _ _ (⟨fun _ => (kk.get (b := w.heap.size) (t := 30) (c := tbl c pv) (by simp)).all, fun _ => trivial⟩) ?_; clear hK K; try simp only [Act.put, List.setIfInBounds_toArray, List.set_cons_zero, List.set_cons_succ])
          have kA := kk.get (b := NA) (t := 47) (c := tab .i64 257 (fun _ => 0)) (by simp)
          have kB := kk.get (b := NB) (t := 35) (c := tab .i64 512 (fun _ => 0)) (by simp)
          have kT := (kk.get (b := w.heap.size) (t := 30) (c := tbl c pv) (by simp))
          have nA := kk.new (NA, 47, tab .i64 257 (fun _ => 0)) (by simp)
          have nB := kk.new (NB, 35, tab .i64 512 (fun _ => 0)) (by simp)
          simp only at nA nB
          have hb := kk.but
          have eAB : NB ≠ NA := kB.neT kA (by decide)
          have eAT : w.heap.size ≠ NA := kT.neT kA (by decide)
          have eBT : w.heap.size ≠ NB := kT.neT kB (by decide)
          have eBA : NA ≠ NB := fun e => eAB e.symm
          clear kk
          have hth := kA.there 0 (tab .i64 257 (wtF o)).toArray.size (by rw [List.size_toArray, tab_length, tab_length]; omega)
          (refine Walk.go (i := 6) (o := { dst := none, op := Op.store 47 (Operand.tmp 5) (Operand.tmp 11), type := 0, pos := "optim.go:39", after := #[{ on := 4, ground := Ground.data }, { on := 1, ground := Ground.data }, { on := 3, ground := Ground.chain }, { on := 0, ground := Ground.phase }, { on := 1, ground := Ground.phase }, { on := 2, ground := Ground.textOnly Departure.lateStores }, { on := 3, ground := Ground.textOnly Departure.lateStoresUnsure }, { on := 4, ground := Ground.phase }, { on := 5, ground := Ground.phase }], guard := none }) (by kernel_rfl) rfl (fun K hK => ?_); refine wp_store_mid 47 (.tmp 5) (.tmp 11) rfl NA 0 (tab .i64 257 (wtF o)).toArray rfl rfl hth (infoB257 _) (tab_all _ _ _) ?_; rw [List.toList_toArray]; (replace kA := kA.layAll (wtF o); have bA := But.setCells (S := fun x => x = NA) (tab .i64 257 (wtF o)) (But.refl (fun x => x = NA) y3) (fun _ => rfl) 0; replace kB := kB.but bA eAB; replace kT := kT.but bA eAT; replace hb := hb.setCells (b := NA) (tab .i64 257 (wtF o)) (fun q => absurd q (by omega)) 0; clear bA); refine hK.out _ _ (⟨fun _ => kT.all, fun _ => trivial⟩) ?_; clear hK K; try simp only [Act.put])
          clear hth
          revert kA kB kT hb
          generalize y3.setCells NA 0 (tab .i64 257 (wtF o)) = W6
          intro kA kB kT hb
          have hth2 := kB.there 0 (tab .i64 512 (both (codN c l) (codV c l))).toArray.size (by rw [List.size_toArray, tab_length, tab_length]; omega)
          (refine Walk.go (i := 7) (o := { dst := none, op := Op.store 35 (Operand.tmp 6) (Operand.tmp 13), type := 0, pos := "optim.go:39", after := #[{ on := 5, ground := Ground.data }, { on := 3, ground := Ground.data }, { on := 6, ground := Ground.chain }, { on := 0, ground := Ground.phase }, { on := 1, ground := Ground.phase }, { on := 2, ground := Ground.phase }, { on := 3, ground := Ground.phase }, { on := 4, ground := Ground.phase }, { on := 5, ground := Ground.phase }, { on := 6, ground := Ground.phase }], guard := none }) (by kernel_rfl) rfl (fun K hK => ?_); refine wp_store_mid 35 (.tmp 6) (.tmp 13) rfl NB 0 (tab .i64 512 (both (codN c l) (codV c l))).toArray rfl rfl hth2 (HBI.out _) (tab_all _ _ _) ?_; rw [List.toList_toArray]; (replace kB := kB.layAll (both (codN c l) (codV c l)); have bB := fun W => But.setCells (S := fun x => x = NB) (tab .i64 512 (both (codN c l) (codV c l))) (But.refl (fun x => x = NB) W) (fun _ => rfl) 0; replace kA := kA.but (bB _) eBA; replace kT := kT.but (bB _) eBT; replace hb := hb.setCells (b := NB) (tab .i64 512 (both (codN c l) (codV c l))) (fun q => absurd q (by omega)) 0; clear bB); refine hK.out _ _ (⟨fun _ => kT.all, fun _ => trivial⟩) ?_; clear hK K; try simp only [Act.put])
          clear hth2
          revert kA kB kT hb
          generalize W6.setCells NB 0 (tab .i64 512 (both (codN c l) (codV c l))) = W7
          intro kB kA kT hb
          refine Walk.done (by kernel_rfl) ?_ _
          have HE : Hid _ := And.intro kA (And.intro kB hb)
          clear kA kB kT hb eAB eAT eBT eBA nA nB hz hz5 hu huC huK huT hiT
          go_wp2_with fail
          go_meet
          case rel => exact ⟨NA, NB, rfl, rfl, HE.out⟩
      · go_simp; (replace kk := kk.made 47 (tab .i64 257 (fun _ => 0))); refine hK.out _ _ (⟨fun _ => (kk.get (b := w.heap.size) (t := 30) (c := tbl c pv) (by simp)).all, fun _ => trivial⟩) ?_; clear hK K; try simp only [Act.put, List.setIfInBounds_toArray, List.set_cons_zero, List.set_cons_succ]
        revert kk
        obtain ⟨NA, hNA⟩ : ∃ n, V15.heap.size = n := ⟨_, rfl⟩
        rw [hNA]
        clear hNA
        generalize V15.alloc (.cells (tab .i64 257 (fun _ => 0)).toArray 47) = V18
        intro kk
        (refine Walk.go (i := 1) (o := { dst := some 11, op := Op.call { callee := Callee.value (Operand.func 22), args := #[Operand.tmp 10], argTypes := #[22] }, type := 47, pos := "optim.go:39", after := #[{ on := 0, ground := Ground.data }], guard := none }) (by kernel_rfl) rfl (fun K hK => ?_); go_simp; ((go_at_call 22; refine (counted_any ao cap o HOI.out hol hcap _ (HO.out.but kk.but)).mono ?_; rintro e y1 ⟨rfl, dd⟩; replace kk := kk.step dd; clear dd)); refine hK.out _ _ (⟨fun _ => (kk.get (b := w.heap.size) (t := 30) (c := tbl c pv) (by simp)).all, fun _ => trivial⟩) ?_; clear hK K; try simp only [Act.put, List.setIfInBounds_toArray, List.set_cons_zero, List.set_cons_succ])
        (refine Walk.go (i := 3) (o := { dst := some 13, op := Op.call { callee := Callee.value (Operand.func 13), args := #[Operand.tmp 12], argTypes := #[30] }, type := 35, pos := "optim.go:39", after := #[{ on := 2, ground := Ground.data }, { on := 1, ground := Ground.chain }], guard := none }) (by kernel_rfl) rfl (fun K hK => ?_); go_simp; ((go_at_call 13; refine (codes_spec c pv l hI _ (HV.out.but kk.but) hx hl).mono ?_; rintro e y3 ⟨rfl, dd⟩; replace kk := kk.step dd; clear dd)); refine hK.out _ _ (⟨fun _ => (kk.get (b := w.heap.size) (t := 30) (c := tbl c pv) (by simp)).all, fun _ => trivial⟩) ?_; clear hK K; try simp only [Act.put, List.setIfInBounds_toArray, List.set_cons_zero, List.set_cons_succ])
        have kA := kk.get (b := NA) (t := 47) (c := tab .i64 257 (fun _ => 0)) (by simp)
        have kB := kk.get (b := NB) (t := 35) (c := tab .i64 512 (fun _ => 0)) (by simp)
        have kT := (kk.get (b := w.heap.size) (t := 30) (c := tbl c pv) (by simp))
        have nA := kk.new (NA, 47, tab .i64 257 (fun _ => 0)) (by simp)
        have nB := kk.new (NB, 35, tab .i64 512 (fun _ => 0)) (by simp)
        simp only at nA nB
        have hb := kk.but
        have eAB : NB ≠ NA := kB.neT kA (by decide)
        have eAT : w.heap.size ≠ NA := kT.neT kA (by decide)
        have eBT : w.heap.size ≠ NB := kT.neT kB (by decide)
        have eBA : NA ≠ NB := fun e => eAB e.symm
        clear kk
        have hth := kA.there 0 (tab .i64 257 (wtF o)).toArray.size (by rw [List.size_toArray, tab_length, tab_length]; omega)
        (refine Walk.go (i := 6) (o := { dst := none, op := Op.store 47 (Operand.tmp 5) (Operand.tmp 11), type := 0, pos := "optim.go:39", after := #[{ on := 4, ground := Ground.data }, { on := 1, ground := Ground.data }, { on := 3, ground := Ground.chain }, { on := 0, ground := Ground.phase }, { on := 1, ground := Ground.phase }, { on := 2, ground := Ground.textOnly Departure.lateStores }, { on := 3, ground := Ground.textOnly Departure.lateStoresUnsure }, { on := 4, ground := Ground.phase }, { on := 5, ground := Ground.phase }], guard := none }) (by kernel_rfl) rfl (fun K hK => ?_); refine wp_store_mid 47 (.tmp 5) (.tmp 11) rfl NA 0 (tab .i64 257 (wtF o)).toArray rfl rfl hth (infoB257 _) (tab_all _ _ _) ?_; rw [List.toList_toArray]; (replace kA := kA.layAll (wtF o); have bA := But.setCells (S := fun x => x = NA) (tab .i64 257 (wtF o)) (But.refl (fun x => x = NA) y3) (fun _ => rfl) 0; replace kB := kB.but bA eAB; replace kT := kT.but bA eAT; replace hb := hb.setCells (b := NA) (tab .i64 257 (wtF o)) (fun q => absurd q (by omega)) 0; clear bA); refine hK.out _ _ (⟨fun _ => kT.all, fun _ => trivial⟩) ?_; clear hK K; try simp only [Act.put])
        clear hth
        revert kA kB kT hb
        generalize y3.setCells NA 0 (tab .i64 257 (wtF o)) = W6
        intro kA kB kT hb
        have hth2 := kB.there 0 (tab .i64 512 (both (codN c l) (codV c l))).toArray.size (by rw [List.size_toArray, tab_length, tab_length]; omega)
        (refine Walk.go (i := 7) (o := { dst := none, op := Op.store 35 (Operand.tmp 6) (Operand.tmp 13), type := 0, pos := "optim.go:39", after := #[{ on := 5, ground := Ground.data }, { on := 3, ground := Ground.data }, { on := 6, ground := Ground.chain }, { on := 0, ground := Ground.phase }, { on := 1, ground := Ground.phase }, { on := 2, ground := Ground.phase }, { on := 3, ground := Ground.phase }, { on := 4, ground := Ground.phase }, { on := 5, ground := Ground.phase }, { on := 6, ground := Ground.phase }], guard := none }) (by kernel_rfl) rfl (fun K hK => ?_); refine wp_store_mid 35 (.tmp 6) (.tmp 13) rfl NB 0 (tab .i64 512 (both (codN c l) (codV c l))).toArray rfl rfl hth2 (HBI.out _) (tab_all _ _ _) ?_; rw [List.toList_toArray]; (replace kB := kB.layAll (both (codN c l) (codV c l)); have bB := fun W => But.setCells (S := fun x => x = NB) (tab .i64 512 (both (codN c l) (codV c l))) (But.refl (fun x => x = NB) W) (fun _ => rfl) 0; replace kA := kA.but (bB _) eBA; replace kT := kT.but (bB _) eBT; replace hb := hb.setCells (b := NB) (tab .i64 512 (both (codN c l) (codV c l))) (fun q => absurd q (by omega)) 0; clear bB); refine hK.out _ _ (⟨fun _ => kT.all, fun _ => trivial⟩) ?_; clear hK K; try simp only [Act.put])
        clear hth2
        revert kA kB kT hb
        generalize W6.setCells NB 0 (tab .i64 512 (both (codN c l) (codV c l))) = W7
        intro kB kA kT hb
        refine Walk.done (by kernel_rfl) ?_ _
        have HE : Hid _ := And.intro kA (And.intro kB hb)
        clear kA kB kT hb eAB eAT eBT eBA nA nB hz hz5 hu huC huK huT hiT
        go_wp2_with fail
        go_meet
        case rel => exact ⟨NA, NB, rfl, rfl, HE.out⟩
  case rest =>
    clear kk
    obtain ⟨NA, NB, rfl, rfl, kA, kB, hb⟩ := hcut
    have hiA := HAI.out
    have hr := kB.all
    go_upto_region 4 with (refine wpList_load_mid rfl 35 (.tmp 6) rfl NB 0 rfl (tab .i64 512 (both (codN c l) (codV c l))) _ ?_ huC rfl (hiA _) ?_; exact hr)
    clear hr hiA
    go_loopw [7, 15] (fun n i V => ∃ k : Nat, k ≤ 256 ∧ i = .int .i64 k ∧ n = .int .i64 (sm (fun v => wtF o v * codN c l v) k) ∧ (∀ v, v < k → 0 < wtF o v → codN c l v ≠ 0) ∧ Cells V NA 47 (tab .i64 257 (wtF o)) ∧ But Nowhere w V) (fun _ i _ => 256 - (intOf i).toNat)
    case atStart => exact ⟨0, Nat.zero_le _, rfl, rfl, fun v hv => by omega, kA, hb⟩
    case round =>
      clear kA hb kB
      obtain ⟨k, hk, rfl, rfl, hall, kA, hb⟩ := hrel
      have HALL : Hid _ := hall
      clear hall
      by_cases hlt : k < 256
      · have i0 : (0 : Int) ≤ (k : Int) := by omega
        have i1 : (k : Int) < 256 := by omega
        have i2 : (k : Int) < 257 := by omega
        have x0 := index_both (codN c l) (codV c l) k hlt
        have gC := Cells.new wr 34 [.int .i64 (codN c l k), .int .i64 (codV c l k)]
        have bC : But Nowhere wr (wr.alloc (.cells #[.int .i64 (codN c l k), .int .i64 (codV c l k)] 34)) := (But.refl _ _).alloc _
        have HK : Hid _ := And.intro (kA.but bC (not_nowhere _)) (hb.trans bC)
        have g0 := gC.at 0
        have c1 := (kA.but bC (not_nowhere _)).cell k (by omega)
        clear kA hb bC gC
        have hw := wtF_bd o k
        have hn := codN_bd c l k
        have hs := part_bd (c := c) (l := l) (wtF_bd o) k
        have hsm : Hid (sm (fun v => wtF o v * codN c l v) (k + 1) = sm (fun v => wtF o v * codN c l v) k + wtF o k * codN c l k) := rfl
        have hm1 := Int.mul_nonneg hw.1 hn.1
        have hm2 := Int.mul_le_mul hw.2 hn.2 hn.1 (by omega)
        have hstep : Hid (¬ (0 < wtF o k ∧ codN c l k = 0) → ∀ v, v < k + 1 → 0 < wtF o v → codN c l v ≠ 0) := fun hn v hv hwv hc => by
          by_cases e : v = k
          · subst e; exact hn ⟨hwv, hc⟩
          · exact HALL.out v (by omega) hwv hc
        have hnot : Hid (0 < wtF o k → codN c l k = 0 → costF c l (wtF o) = -1) := fun h1 h2 => costF_not k hlt h1 h2
        simp only [List.getElem?_cons_zero] at g0
        generalize codN c l k = N at *
        generalize codV c l k = VV at *
        generalize wtF o k = X at *
        generalize sm (fun v => wtF o v * codN c l v) k = Y at *
        have r1 : IntKind.i64.wrap (X * N) = X * N := by rw [wrap_i64_eq, w64 _ (by omega)]
        have r2 : IntKind.i64.wrap (Y + X * N) = Y + X * N := by rw [wrap_i64_eq, w64 _ (by omega)]
        clear hm1 hm2 hs
        by_cases hX : 0 < X
        · have dX : decide (X > 0) = true := by simpa using hX
          by_cases hN : N = 0
          · have HR : Hid _ := hnot.out hX hN
            subst hN
            clear hnot hstep hsm r1 r2
            go_wp2_with fail
            go_ret
            rw [HR.out]
            exact ⟨rfl, HK.out.2⟩
          · have HS : Hid _ := hstep.out (fun q => hN q.2)
            have d1 : (N == 0) = false := by simpa using hN
            clear hnot hstep
            go_wp2_with fail
            obtain ⟨GB, hGB⟩ : ∃ n, wr.heap.size = n := ⟨_, rfl⟩
            rw [hGB] at g0 ⊢
            clear hGB
            revert g0 c1 HK
            generalize wr.alloc (.cells #[.int .i64 N, .int .i64 VV] 34) = V9
            intro HK c1 g0
            refine wp_region_till (S := fun V => V.cell? ⟨NA, k, none⟩ = some (.int .i64 X) ∧ V.cell? ⟨GB, 0, none⟩ = some (.int .i64 N)) (R := fun _ => True) (k := 100) (m := 100) (by kernel_rfl) ⟨c1, g0⟩ trivial ?_
            (refine Walk.take (i := 0) (oi := { dst := some 28, op := Op.move (Operand.tmp 7), type := 3, pos := "optim.go:45", after := #[], guard := none }) (v := ?_) rfl (by kernel_rfl) (by kernel_rfl) (by kernel_rfl) (by kernel_rfl) (fun _ _ _ h => h) (Or.inl ⟨by rfl, ?_⟩) ?_; rotate_left; (intro w hw; clear hw; (try go_split_ands); go_simp; try (with_reducible rfl)); simp only [Act.put, List.setIfInBounds_toArray, List.set_cons_zero, List.set_cons_succ])
            (refine Walk.take (i := 1) (oi := { dst := some 29, op := Op.move (Operand.tmp 8), type := 3, pos := "optim.go:45", after := #[], guard := none }) (v := ?_) rfl (by kernel_rfl) (by kernel_rfl) (by kernel_rfl) (by kernel_rfl) (fun _ _ _ h => h) (Or.inl ⟨by rfl, ?_⟩) ?_; rotate_left; (intro w hw; clear hw; (try go_split_ands); go_simp; try (with_reducible rfl)); simp only [Act.put, List.setIfInBounds_toArray, List.set_cons_zero, List.set_cons_succ])
            (refine Walk.take (i := 2) (oi := { dst := some 30, op := Op.indexAddr 47 (Operand.tmp 5) (Operand.tmp 29), type := 0, pos := "optim.go:45", after := #[{ on := 1, ground := Ground.data }], guard := none }) (v := ?_) rfl (by kernel_rfl) (by kernel_rfl) (by kernel_rfl) (by kernel_rfl) (fun _ _ _ h => h) (Or.inl ⟨by rfl, ?_⟩) ?_; rotate_left; (intro w hw; clear hw; (try go_split_ands); go_simp; try (with_reducible rfl)); simp only [Act.put, List.setIfInBounds_toArray, List.set_cons_zero, List.set_cons_succ])
            (refine Walk.take (i := 3) (oi := { dst := some 31, op := Op.load 3 (Operand.tmp 30), type := 3, pos := "optim.go:45", after := #[{ on := 2, ground := Ground.data }], guard := none }) (v := ?_) rfl (by kernel_rfl) (by kernel_rfl) (by kernel_rfl) (by kernel_rfl) (fun _ _ _ h => h) (Or.inl ⟨by rfl, ?_⟩) ?_; rotate_left; (intro w hw; have hS1 := hw.1 (by kernel_rfl); clear hw; (try dsimp only at hS1); (try go_split_ands); go_simp; try (with_reducible rfl)); simp only [Act.put, List.setIfInBounds_toArray, List.set_cons_zero, List.set_cons_succ])
            (refine Walk.take (i := 4) (oi := { dst := some 32, op := Op.fieldAddr 34 (Operand.tmp 9) 0, type := 0, pos := "optim.go:45", after := #[], guard := none }) (v := ?_) rfl (by kernel_rfl) (by kernel_rfl) (by kernel_rfl) (by kernel_rfl) (fun _ _ _ h => h) (Or.inl ⟨by rfl, ?_⟩) ?_; rotate_left; (intro w hw; clear hw; (try go_split_ands); go_simp; try (with_reducible rfl)); simp only [Act.put, List.setIfInBounds_toArray, List.set_cons_zero, List.set_cons_succ])
            (refine Walk.take (i := 5) (oi := { dst := some 33, op := Op.load 3 (Operand.tmp 32), type := 3, pos := "optim.go:45", after := #[{ on := 4, ground := Ground.data }], guard := none }) (v := ?_) rfl (by kernel_rfl) (by kernel_rfl) (by kernel_rfl) (by kernel_rfl) (fun _ _ _ h => h) (Or.inl ⟨by rfl, ?_⟩) ?_; rotate_left; (intro w hw; have hS1 := hw.1 (by kernel_rfl); clear hw; (try dsimp only at hS1); (try go_split_ands); go_simp; try (with_reducible rfl)); simp only [Act.put, List.setIfInBounds_toArray, List.set_cons_zero, List.set_cons_succ])
            (refine Walk.take (i := 6) (oi := { dst := some 34, op := Op.binOp BinOp.mul 3 (Operand.tmp 31) (Operand.tmp 33) 3, type := 3, pos := "optim.go:45", after := #[{ on := 3, ground := Ground.data }, { on := 5, ground := Ground.data }], guard := none }) (v := ?_) rfl (by kernel_rfl) (by kernel_rfl) (by kernel_rfl) (by kernel_rfl) (fun _ _ _ h => h) (Or.inl ⟨by rfl, ?_⟩) ?_; rotate_left; (intro w hw; clear hw; (try go_split_ands); go_simp; try (with_reducible rfl)); simp only [Act.put, List.setIfInBounds_toArray, List.set_cons_zero, List.set_cons_succ])
            (refine Walk.take (i := 7) (oi := { dst := some 35, op := Op.binOp BinOp.add 3 (Operand.tmp 28) (Operand.tmp 34) 3, type := 3, pos := "optim.go:45", after := #[{ on := 0, ground := Ground.data }, { on := 6, ground := Ground.data }], guard := none }) (v := ?_) rfl (by kernel_rfl) (by kernel_rfl) (by kernel_rfl) (by kernel_rfl) (fun _ _ _ h => h) (Or.inl ⟨by rfl, ?_⟩) ?_; rotate_left; (intro w hw; clear hw; (try go_split_ands); go_simp; try (with_reducible rfl)); simp only [Act.put, List.setIfInBounds_toArray, List.set_cons_zero, List.set_cons_succ])
            (refine Walk.take (i := 8) (oi := { dst := some 7, op := Op.assign (Operand.tmp 35), type := 3, pos := "optim.go:45", after := #[{ on := 7, ground := Ground.data }, { on := 0, ground := Ground.phase }, { on := 1, ground := Ground.phase }, { on := 2, ground := Ground.phase }, { on := 3, ground := Ground.phase }, { on := 4, ground := Ground.phase }, { on := 5, ground := Ground.phase }, { on := 6, ground := Ground.phase }, { on := 7, ground := Ground.phase }], guard := none }) (v := ?_) rfl (by kernel_rfl) (by kernel_rfl) (by kernel_rfl) (by kernel_rfl) (fun _ _ _ h => h) (Or.inl ⟨by rfl, ?_⟩) ?_; rotate_left; (intro w hw; clear hw; (try go_split_ands); go_simp; try (with_reducible rfl)); simp only [Act.put, List.setIfInBounds_toArray, List.set_cons_zero, List.set_cons_succ])
            refine Walk.done (by kernel_rfl) ?_ _
            go_wp2_with fail
            go_roundw
            case rel => exact ⟨k + 1, by omega, by go_num, by rw [hsm.out], HS.out, HK.out.1.but ((But.refl _ _).drew) (not_nowhere _), HK.out.2.drew⟩
            case measure => simp [intOf]; omega
        · have dX : decide (X > 0) = false := by simpa using hX
          have HS : Hid _ := hstep.out (fun q => hX q.1)
          clear hnot hstep
          go_wp2_with fail
          obtain ⟨GB, hGB⟩ : ∃ n, wr.heap.size = n := ⟨_, rfl⟩
          rw [hGB] at g0 ⊢
          clear hGB
          revert g0 c1 HK
          generalize wr.alloc (.cells #[.int .i64 N, .int .i64 VV] 34) = V9
          intro HK c1 g0
          refine wp_region_till (S := fun V => V.cell? ⟨NA, k, none⟩ = some (.int .i64 X) ∧ V.cell? ⟨GB, 0, none⟩ = some (.int .i64 N)) (R := fun _ => True) (k := 100) (m := 100) (by kernel_rfl) ⟨c1, g0⟩ trivial ?_
          (refine Walk.take (i := 0) (oi := { dst := some 28, op := Op.move (Operand.tmp 7), type := 3, pos := "optim.go:45", after := #[], guard := none }) (v := ?_) rfl (by kernel_rfl) (by kernel_rfl) (by kernel_rfl) (by kernel_rfl) (fun _ _ _ h => h) (Or.inl ⟨by rfl, ?_⟩) ?_; rotate_left; (intro w hw; clear hw; (try go_split_ands); go_simp; try (with_reducible rfl)); simp only [Act.put, List.setIfInBounds_toArray, List.set_cons_zero, List.set_cons_succ])
          (refine Walk.take (i := 1) (oi := { dst := some 29, op := Op.move (Operand.tmp 8), type := 3, pos := "optim.go:45", after := #[], guard := none }) (v := ?_) rfl (by kernel_rfl) (by kernel_rfl) (by kernel_rfl) (by kernel_rfl) (fun _ _ _ h => h) (Or.inl ⟨by rfl, ?_⟩) ?_; rotate_left; (intro w hw; clear hw; (try go_split_ands); go_simp; try (with_reducible rfl)); simp only [Act.put, List.setIfInBounds_toArray, List.set_cons_zero, List.set_cons_succ])
          (refine Walk.take (i := 2) (oi := { dst := some 30, op := Op.indexAddr 47 (Operand.tmp 5) (Operand.tmp 29), type := 0, pos := "optim.go:45", after := #[{ on := 1, ground := Ground.data }], guard := none }) (v := ?_) rfl (by kernel_rfl) (by kernel_rfl) (by kernel_rfl) (by kernel_rfl) (fun _ _ _ h => h) (Or.inl ⟨by rfl, ?_⟩) ?_; rotate_left; (intro w hw; clear hw; (try go_split_ands); go_simp; try (with_reducible rfl)); simp only [Act.put, List.setIfInBounds_toArray, List.set_cons_zero, List.set_cons_succ])
          (refine Walk.take (i := 3) (oi := { dst := some 31, op := Op.load 3 (Operand.tmp 30), type := 3, pos := "optim.go:45", after := #[{ on := 2, ground := Ground.data }], guard := none }) (v := ?_) rfl (by kernel_rfl) (by kernel_rfl) (by kernel_rfl) (by kernel_rfl) (fun _ _ _ h => h) (Or.inl ⟨by rfl, ?_⟩) ?_; rotate_left; (intro w hw; have hS1 := hw.1 (by kernel_rfl); clear hw; (try dsimp only at hS1); (try go_split_ands); go_simp; try (with_reducible rfl)); simp only [Act.put, List.setIfInBounds_toArray, List.set_cons_zero, List.set_cons_succ])
          (refine Walk.take (i := 4) (oi := { dst := some 32, op := Op.fieldAddr 34 (Operand.tmp 9) 0, type := 0, pos := "optim.go:45", after := #[], guard := none }) (v := ?_) rfl (by kernel_rfl) (by kernel_rfl) (by kernel_rfl) (by kernel_rfl) (fun _ _ _ h => h) (Or.inl ⟨by rfl, ?_⟩) ?_; rotate_left; (intro w hw; clear hw; (try go_split_ands); go_simp; try (with_reducible rfl)); simp only [Act.put, List.setIfInBounds_toArray, List.set_cons_zero, List.set_cons_succ])
          (refine Walk.take (i := 5) (oi := { dst := some 33, op := Op.load 3 (Operand.tmp 32), type := 3, pos := "optim.go:45", after := #[{ on := 4, ground := Ground.data }], guard := none }) (v := ?_) rfl (by kernel_rfl) (by kernel_rfl) (by kernel_rfl) (by kernel_rfl) (fun _ _ _ h => h) (Or.inl ⟨by rfl, ?_⟩) ?_; rotate_left; (intro w hw; have hS1 := hw.1 (by kernel_rfl); clear hw; (try dsimp only at hS1); (try go_split_ands); go_simp; try (with_reducible rfl)); simp only [Act.put, List.setIfInBounds_toArray, List.set_cons_zero, List.set_cons_succ])
          (refine Walk.take (i := 6) (oi := { dst := some 34, op := Op.binOp BinOp.mul 3 (Operand.tmp 31) (Operand.tmp 33) 3, type := 3, pos := "optim.go:45", after := #[{ on := 3, ground := Ground.data }, { on := 5, ground := Ground.data }], guard := none }) (v := ?_) rfl (by kernel_rfl) (by kernel_rfl) (by kernel_rfl) (by kernel_rfl) (fun _ _ _ h => h) (Or.inl ⟨by rfl, ?_⟩) ?_; rotate_left; (intro w hw; clear hw; (try go_split_ands); go_simp; try (with_reducible rfl)); simp only [Act.put, List.setIfInBounds_toArray, List.set_cons_zero, List.set_cons_succ])
          (refine Walk.take (i := 7) (oi := { dst := some 35, op := Op.binOp BinOp.add 3 (Operand.tmp 28) (Operand.tmp 34) 3, type := 3, pos := "optim.go:45", after := #[{ on := 0, ground := Ground.data }, { on := 6, ground := Ground.data }], guard := none }) (v := ?_) rfl (by kernel_rfl) (by kernel_rfl) (by kernel_rfl) (by kernel_rfl) (fun _ _ _ h => h) (Or.inl ⟨by rfl, ?_⟩) ?_; rotate_left; (intro w hw; clear hw; (try go_split_ands); go_simp; try (with_reducible rfl)); simp only [Act.put, List.setIfInBounds_toArray, List.set_cons_zero, List.set_cons_succ])
          (refine Walk.take (i := 8) (oi := { dst := some 7, op := Op.assign (Operand.tmp 35), type := 3, pos := "optim.go:45", after := #[{ on := 7, ground := Ground.data }, { on := 0, ground := Ground.phase }, { on := 1, ground := Ground.phase }, { on := 2, ground := Ground.phase }, { on := 3, ground := Ground.phase }, { on := 4, ground := Ground.phase }, { on := 5, ground := Ground.phase }, { on := 6, ground := Ground.phase }, { on := 7, ground := Ground.phase }], guard := none }) (v := ?_) rfl (by kernel_rfl) (by kernel_rfl) (by kernel_rfl) (by kernel_rfl) (fun _ _ _ h => h) (Or.inl ⟨by rfl, ?_⟩) ?_; rotate_left; (intro w hw; clear hw; (try go_split_ands); go_simp; try (with_reducible rfl)); simp only [Act.put, List.setIfInBounds_toArray, List.set_cons_zero, List.set_cons_succ])
          refine Walk.done (by kernel_rfl) ?_ _
          go_wp2_with fail
          go_roundw
          case rel => exact ⟨k + 1, by omega, by go_num, by rw [hsm.out], HS.out, HK.out.1.but ((But.refl _ _).drew) (not_nowhere _), HK.out.2.drew⟩
          case measure => simp [intOf]; omega
      · obtain rfl : k = 256 := by omega
        have HR : Hid (sm (fun v => wtF o v * codN c l v) 256 = costF c l (wtF o)) := (costF_all HALL.out).symm
        have HK : Hid _ := hb
        clear kA hb
        generalize sm (fun v => wtF o v * codN c l v) 256 = Y at *
        go_wp2_with fail
        go_ret
        rw [HR.out]
        exact ⟨rfl, HK.out⟩

end Go.Proofs.Ytlpeplihbdcklaa
