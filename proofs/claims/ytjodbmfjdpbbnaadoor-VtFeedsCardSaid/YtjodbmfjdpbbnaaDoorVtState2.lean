/- Contract of the reference's State, its first line passed: the three loops. -/
import Derived.Test.YtjodbmfjdpbbnaaDoorVtState
import Derived.Deep.DeepCutAuto
namespace Go.Proofs.YtjodbmfjdpbbnaaDoor
set_option maxRecDepth 100000
open Go.RowKit
namespace Vt
set_option maxRecDepth 100000 in
set_option maxHeartbeats 6400000 in
theorem state_v1 (p : Ps) (u : Value) (w : World) (hu : Src w u p.params.length (ints p.params)) (hh : Head p) (e : p.part = []) (e5 : p.params.length = 0) :
    Calls Tryd.prog 9 #[.agg #[.int .i64 p.state, .string ⟨p.part.toArray⟩, u, .string ⟨p.inter.toArray⟩, .string ⟨p.text.toArray⟩]] w fun e w' => e = .returned (.bool (okB p)) ∧ Below w.heap.size w w' := by
  obtain ⟨A, c, rfl, hf⟩ := hu.form
  have hpe := strE p.part
  have hie := strE p.inter
  have hte := strE p.text
  have HU := Lib.hid hu
  have HH := Lib.hid hh
  have hp : (⟨p.part.toArray⟩ : ByteArray).size ≤ 1000000 := by have := Utf.fits_len hh.fit; show p.part.length ≤ _; omega
  have HP := Lib.hid hp
  have hn16 := hh.n16
  have hi3 := hh.i3
  have ht64 := hh.t64
  have f4 : decide (16 < (p.params.length : Int)) = false := decide_eq_false (by omega)
  have f6 : decide (3 < (p.inter.length : Int)) = false := decide_eq_false (by omega)
  have f7 : decide (64 < (p.text.length : Int)) = false := decide_eq_false (by omega)
  have hb0 : Below w.heap.size w (w.alloc (.cells #[.int .i64 p.state, .string ⟨p.part.toArray⟩, .slice A p.params.length c, .string ⟨p.inter.toArray⟩, .string ⟨p.text.toArray⟩] 31)) := (Below.refl _ _).alloc (Nat.le_refl _) _
  have hblk := heap_alloc_new w (.cells #[.int .i64 p.state, .string ⟨p.part.toArray⟩, .slice A p.params.length c, .string ⟨p.inter.toArray⟩, .string ⟨p.text.toArray⟩] 31)
  have HB0 := Lib.hid hb0
  have HBLK := Lib.hid hblk
  have HS := Lib.hid hh.s
  have HF := Lib.hid hh.fit
  clear hu hh hp hb0 hblk hf
  have f5 : decide (0 < p.params.length) = false := decide_eq_false (by omega)
  rw [e] at HB0 HBLK HF HP ⊢
  clear hpe e e5
  go_enter Tryd.func9, Tryd.ntmps9
  go_wp2_with fail
  refine (between0_at p.state 0 8 _ HS.out _).mono ?_; rintro e w' ⟨rfl, rfl⟩
  go_wp2_with fail
  refine (may_at ⟨#[]⟩ _ HF.out _ HP.out).mono ?_; rintro e w1 ⟨rfl, hb1⟩
  have hbk1 : w1.heap[w.heap.size]? = some (.cells #[.int .i64 p.state, .string ⟨#[]⟩, .slice A p.params.length c, .string ⟨p.inter.toArray⟩, .string ⟨p.text.toArray⟩] 31) := (hb1.block _ (by simp)).trans HBLK.out
  have q0 : w1.cell? ⟨w.heap.size, 0, none⟩ = some (.int .i64 p.state) := block_cell0 hbk1 0
  have q1 : w1.cell? ⟨w.heap.size, 1, none⟩ = some (.string ⟨#[]⟩) := block_cell0 hbk1 1
  have q2 : w1.cell? ⟨w.heap.size, 2, none⟩ = some (.slice A p.params.length c) := block_cell0 hbk1 2
  have q3 : w1.cell? ⟨w.heap.size, 3, none⟩ = some (.string ⟨p.inter.toArray⟩) := block_cell0 hbk1 3
  have q4 : w1.cell? ⟨w.heap.size, 4, none⟩ = some (.string ⟨p.text.toArray⟩) := block_cell0 hbk1 4
  have HU1 := Lib.hid (Src.kept (Src.kept HU.out HB0.out) hb1)
  have HBB := Lib.hid (HB0.out.trans (hb1.mono HB0.out.size))
  clear hbk1 hb1
  go_wp2_with fail
  go_loop [3] (fun i => ∃ k : Nat, k ≤ p.params.length ∧ i = .int .i64 k ∧ Hid (∀ j, j < k → paramOk (p.params.getD j 0) = true)) (fun i => p.params.length - (intOf i).toNat)
  case atStart => exact ⟨0, by omega, rfl, Lib.hid (fun j hj => absurd hj (by omega))⟩
  case round =>
    obtain ⟨k, hk, rfl, HPA⟩ := hrel
    by_cases hlt : k < p.params.length
    · obtain ⟨A', c', hA, hf⟩ := HU1.out.form
      obtain ⟨ad, e, hE⟩ := hf k hlt
      injection hA with h1 h2 h3
      subst h1
      subst h3
      subst e
      rw [ints_get hlt] at hE
      clear hf h2
      cases hpo : paramOk (p.params.getD k 0)
      · have HN := Lib.hid (par_no hlt hpo)
        have HPO : Hid (rng (p.params.getD k 0) (-1) 9999 = false) := Lib.hid hpo
        clear hpo
        generalize p.params.getD k 0 = x at hE HPO
        go_wp2_with fail
        refine (between0_at x (-1) 9999 _ HPO.out _).mono ?_; rintro e w' ⟨rfl, rfl⟩
        go_wp2_with fail
        go_ret
        exact ⟨ret_bool HN.out.symm, HBB.out⟩
      · have HPO : Hid (rng (p.params.getD k 0) (-1) 9999 = true) := Lib.hid hpo
        have HPA2 : Hid (∀ j, j < k + 1 → paramOk (p.params.getD j 0) = true) := Lib.hid (fun j hj => by
          by_cases e : j = k
          · subst e; exact hpo
          · exact HPA.out j (by omega))
        clear hpo
        generalize p.params.getD k 0 = x at hE HPO
        go_wp2_with fail
        refine (between0_at x (-1) 9999 _ HPO.out _).mono ?_; rintro e w' ⟨rfl, rfl⟩
        go_wp2_with fail
        go_round
        case rel => exact ⟨k + 1, by omega, by go_num, HPA2⟩
        case measure => simp [intOf]; omega
    · have hdk : decide (k < p.params.length) = false := decide_eq_false hlt
      have HPAR : Hid (p.params.all paramOk = true) := Lib.hid (List.all_eq_true.2 fun x hx => by
        obtain ⟨j, hj, rfl⟩ := List.getElem_of_mem hx
        have := HPA.out j (by omega)
        simpa [List.getD, hj] using this)
      clear hlt HPA
      go_wp2_with fail
      go_loop [4] (fun i => ∃ k : Nat, k ≤ p.inter.length ∧ i = .int .i64 k ∧ Hid (intersOk (decide (p.state = 3)) 0 (p.inter.take k) = true)) (fun i => p.inter.length - (intOf i).toNat)
      case atStart => exact ⟨0, by omega, rfl, Lib.hid rfl⟩
      case round =>
        obtain ⟨k2, hk2, rfl, HIA⟩ := hrel
        by_cases hlt : k2 < p.inter.length
        · have hsa := str_at p.inter k2 hlt
          have hxb := Utf.byte_lt (p.inter.getD k2 0)
          have HIO : Hid (∀ v, interOk (decide (p.state = 3)) k2 (p.inter.getD k2 0) = v → (v = true → intersOk (decide (p.state = 3)) 0 (p.inter.take (k2 + 1)) = true) ∧ (v = false → okB p = false)) :=
            Lib.hid (fun v hv => ⟨fun h => int_yes hlt HIA.out (by rw [hv, h]), fun h => int_no hlt (by rw [hv, h])⟩)
          generalize p.inter.getD k2 0 = x at hsa hxb HIO
          by_cases m0 : 32 ≤ x.toNat ∧ x.toNat ≤ 47
          · have HY : Hid (intersOk (decide (p.state = 3)) 0 (p.inter.take (k2 + 1)) = true) := Lib.hid ((HIO.out true (interOk_mid m0.1 m0.2)).1 rfl)
            have g1 : decide (32 ≤ (x.toNat : Int)) = true := decide_eq_true (by omega)
            have g2 : decide ((x.toNat : Int) ≤ 47) = true := decide_eq_true (by omega)
            have g3 : decide (60 ≤ (x.toNat : Int)) = false := decide_eq_false (by omega)
            have hpv : ((k2 : Int) == 0) = false ∨ (((k2 : Int) == 0) = true ∧ (p.state == 3) = false) ∨ (((k2 : Int) == 0) = true ∧ (p.state == 3) = true) := by
              cases ((k2 : Int) == 0) <;> cases (p.state == 3) <;> simp
            clear HIO m0
            rcases hpv with v0 | ⟨v0, v1⟩ | ⟨v0, v1⟩
            all_goals
              go_wp2_with fail
              go_round
              case rel => exact ⟨k2 + 1, by omega, by go_num, HY⟩
              case measure => simp [intOf]; omega
          · by_cases pv : k2 = 0 ∧ p.state = 3 ∧ 60 ≤ x.toNat ∧ x.toNat ≤ 63
            · have HY : Hid (intersOk (decide (p.state = 3)) 0 (p.inter.take (k2 + 1)) = true) := Lib.hid ((HIO.out true (by
                unfold interOk; rw [decide_eq_true pv.1, decide_eq_true pv.2.1, decide_eq_true pv.2.2.1, decide_eq_true pv.2.2.2]; rfl)).1 rfl)
              obtain ⟨p1, p2, p3, p4⟩ := pv
              have g0 : ((k2 : Int) == 0) = true := by rw [beq_iff_eq]; omega
              have g3 : decide (60 ≤ (x.toNat : Int)) = true := decide_eq_true (by omega)
              have g4 : decide ((x.toNat : Int) ≤ 63) = true := decide_eq_true (by omega)
              have g5 : (p.state == 3) = true := beq_iff_eq.2 p2
              clear HIO m0 p1 p2 p3 p4
              go_wp2_with fail
              go_round
              case rel => exact ⟨k2 + 1, by omega, by go_num, HY⟩
              case measure => simp [intOf]; omega
            · have HN : Hid (okB p = false) := Lib.hid ((HIO.out false (by
                unfold interOk
                rw [Bool.or_eq_false_iff]
                constructor
                · cases h : (decide (k2 = 0) && decide (p.state = 3) && decide (60 ≤ x.toNat) && decide (x.toNat ≤ 63))
                  · rfl
                  · exfalso
                    simp only [Bool.and_eq_true, decide_eq_true_eq] at h
                    exact pv ⟨h.1.1.1, h.1.1.2, h.1.2, h.2⟩
                · cases h : (decide (32 ≤ x.toNat) && decide (x.toNat ≤ 47))
                  · rfl
                  · exfalso
                    simp only [Bool.and_eq_true, decide_eq_true_eq] at h
                    exact m0 h)).2 rfl)
              have hm : (decide (32 ≤ (x.toNat : Int)) = false) ∨ (decide (32 ≤ (x.toNat : Int)) = true ∧ decide ((x.toNat : Int) ≤ 47) = false) := by
                by_cases e : 32 ≤ x.toNat
                · right; exact ⟨decide_eq_true (by omega), decide_eq_false (by omega)⟩
                · left; exact decide_eq_false (by omega)
              have hpv : ((k2 : Int) == 0) = false ∨ (((k2 : Int) == 0) = true ∧ (p.state == 3) = false) ∨ (((k2 : Int) == 0) = true ∧ (p.state == 3) = true ∧ decide (60 ≤ (x.toNat : Int)) = false) ∨ (((k2 : Int) == 0) = true ∧ (p.state == 3) = true ∧ decide (60 ≤ (x.toNat : Int)) = true ∧ decide ((x.toNat : Int) ≤ 63) = false) := by
                by_cases e0 : k2 = 0
                · have z0 : ((k2 : Int) == 0) = true := by rw [beq_iff_eq]; omega
                  by_cases e1 : p.state = 3
                  · by_cases e2 : 60 ≤ x.toNat
                    · exact .inr (.inr (.inr ⟨z0, beq_iff_eq.2 e1, decide_eq_true (by omega), decide_eq_false (fun h => pv ⟨e0, e1, e2, by omega⟩)⟩))
                    · exact .inr (.inr (.inl ⟨z0, beq_iff_eq.2 e1, decide_eq_false (by omega)⟩))
                  · exact .inr (.inl ⟨z0, beq_no e1⟩)
                · exact .inl (beq_no (by omega))
              clear HIO m0 pv
              rcases hm with m1 | ⟨m1, m2⟩
              all_goals rcases hpv with v0 | ⟨v0, v1⟩ | ⟨v0, v1, v2⟩ | ⟨v0, v1, v2, v3⟩
              all_goals
                go_wp2_with fail
                all_goals
                  go_ret
                  exact ⟨ret_bool HN.out.symm, HBB.out⟩
        · have hdk2 : decide (k2 < p.inter.length) = false := decide_eq_false hlt
          have HINT : Hid (intersOk (decide (p.state = 3)) 0 p.inter = true) := Lib.hid (by
            have := HIA.out
            rwa [List.take_of_length_le (by omega)] at this)
          clear hlt HIA
          by_cases hr : p.state ≠ 3 ∧ ¬ (p.state = 2 ↔ p.inter ≠ [])
          · have HN : Hid (okB p = false) := Lib.hid (not_ok fun ok => hr.2 ⟨ok.two, fun h => by
              by_cases e : p.state = 2
              · exact e
              · exact absurd (ok.non e hr.1) h⟩)
            have hx : (p.state == 2) = true ∧ p.inter = [] ∨ (p.state == 2) = false ∧ p.inter ≠ [] := by
              by_cases e : p.state = 2
              · left; refine ⟨beq_iff_eq.2 e, ?_⟩
                by_cases e2 : p.inter = []
                · exact e2
                · exact absurd ⟨fun _ => e2, fun _ => e⟩ hr.2
              · right; refine ⟨beq_no e, fun e2 => hr.2 ⟨fun h => absurd h e, fun h => absurd e2 h⟩⟩
            have z3 := bne_yes hr.1
            have z3b := beq_no hr.1
            clear hr
            rcases hx with ⟨x1, x2⟩ | ⟨x1, x2⟩
            · have xe : p.inter.isEmpty = true := by rw [x2]; rfl
              clear x2
              go_wp2_with fail
              go_ret
              exact ⟨ret_bool HN.out.symm, HBB.out⟩
            · have xe := emp_no x2
              clear x2
              go_wp2_with fail
              go_ret
              exact ⟨ret_bool HN.out.symm, HBB.out⟩
          · have HR : Hid (restOk p = true) := Lib.hid (by
              unfold restOk
              by_cases e3 : p.state = 3
              · rw [decide_eq_false (fun h => h e3)]; rfl
              · have hi : p.state = 2 ↔ p.inter ≠ [] := Classical.not_not.1 fun h => hr ⟨e3, h⟩
                rw [decide_eq_true e3, show decide (p.state = 2) = decide (p.inter ≠ []) from by rw [decide_eq_decide]; exact hi]
                cases decide (p.inter ≠ []) <;> rfl)
            have hx : ((p.state == 3) = true ∧ (p.state != 3) = false) ∨ ((p.state != 3) = true ∧ (p.state == 2) = true ∧ p.inter.isEmpty = false) ∨ ((p.state != 3) = true ∧ (p.state == 2) = false ∧ p.inter.isEmpty = true) := by
              by_cases e3 : p.state = 3
              · exact .inl ⟨beq_iff_eq.2 e3, bne_no e3⟩
              · have hi : p.state = 2 ↔ p.inter ≠ [] := Classical.not_not.1 fun h => hr ⟨e3, h⟩
                by_cases e2 : p.state = 2
                · exact .inr (.inl ⟨bne_yes e3, beq_iff_eq.2 e2, emp_no (hi.1 e2)⟩)
                · refine .inr (.inr ⟨bne_yes e3, beq_no e2, ?_⟩)
                  have : p.inter = [] := Classical.not_not.1 fun h => e2 (hi.2 h)
                  rw [this]; rfl
            clear hr
            rcases hx with ⟨x1, x2⟩ | ⟨x1, x2, x3⟩ | ⟨x1, x2, x3⟩
            all_goals
              go_wp2_with fail
              go_loop [6] (fun i => ∃ k : Nat, k ≤ p.text.length ∧ i = .int .i64 k ∧ Hid (∀ j, j < k → 32 ≤ (p.text.getD j 0).toNat)) (fun i => p.text.length - (intOf i).toNat)
              case atStart => exact ⟨0, by omega, rfl, Lib.hid (fun j hj => absurd hj (by omega))⟩
              case round =>
                obtain ⟨k3, hk3, rfl, HTA⟩ := hrel
                by_cases hlt : k3 < p.text.length
                · have hsa := str_at p.text k3 hlt
                  have hxb := Utf.byte_lt (p.text.getD k3 0)
                  by_cases h32 : (p.text.getD k3 0).toNat < 32
                  · have HN : Hid (okB p = false) := Lib.hid (txt_no hlt h32)
                    have g1 : decide (((p.text.getD k3 0).toNat : Int) < 32) = true := decide_eq_true (by omega)
                    generalize p.text.getD k3 0 = x at hsa hxb g1
                    clear h32
                    go_wp2_with fail
                    go_ret
                    exact ⟨ret_bool HN.out.symm, HBB.out⟩
                  · have HTA2 : Hid (∀ j, j < k3 + 1 → 32 ≤ (p.text.getD j 0).toNat) := Lib.hid (fun j hj => by
                      by_cases e : j = k3
                      · subst e; omega
                      · exact HTA.out j (by omega))
                    have g1 : decide (((p.text.getD k3 0).toNat : Int) < 32) = false := decide_eq_false (by omega)
                    clear h32
                    generalize p.text.getD k3 0 = x at hsa hxb g1
                    go_wp2_with fail
                    go_round
                    case rel => exact ⟨k3 + 1, by omega, by go_num, HTA2⟩
                    case measure => simp [intOf]; omega
                · have hdk3 : decide (k3 < p.text.length) = false := decide_eq_false hlt
                  have HF2 : Hid (okB p = (p.text.isEmpty || ((p.state == 5) || (p.state == 7)))) := Lib.hid (ok_fin HH.out HPAR.out HINT.out HR.out (fun j hj => HTA.out j (by omega)))
                  clear hlt HTA
                  have hz : p.text.isEmpty = true ∨ (p.text.isEmpty = false ∧ (p.state == 5) = true) ∨ (p.text.isEmpty = false ∧ (p.state == 5) = false ∧ (p.state == 7) = true) ∨ (p.text.isEmpty = false ∧ (p.state == 5) = false ∧ (p.state == 7) = false) := by
                    cases p.text.isEmpty <;> cases (p.state == 5) <;> cases (p.state == 7) <;> simp
                  rcases hz with z1 | ⟨z1, z2⟩ | ⟨z1, z2, z3⟩ | ⟨z1, z2, z3⟩
                  all_goals
                    go_wp2_with fail
                    go_ret
                    exact ⟨ret_bool (by rw [HF2.out]; simp [*]), HBB.out⟩

set_option maxRecDepth 100000 in
set_option maxHeartbeats 6400000 in
theorem state_v2 (p : Ps) (u : Value) (w : World) (hu : Src w u p.params.length (ints p.params)) (hh : Head p) (e : p.part = []) (e5 : 0 < p.params.length) (e3 : p.state = 3) :
    Calls Tryd.prog 9 #[.agg #[.int .i64 p.state, .string ⟨p.part.toArray⟩, u, .string ⟨p.inter.toArray⟩, .string ⟨p.text.toArray⟩]] w fun e w' => e = .returned (.bool (okB p)) ∧ Below w.heap.size w w' := by
  obtain ⟨A, c, rfl, hf⟩ := hu.form
  have hpe := strE p.part
  have hie := strE p.inter
  have hte := strE p.text
  have HU := Lib.hid hu
  have HH := Lib.hid hh
  have hp : (⟨p.part.toArray⟩ : ByteArray).size ≤ 1000000 := by have := Utf.fits_len hh.fit; show p.part.length ≤ _; omega
  have HP := Lib.hid hp
  have hn16 := hh.n16
  have hi3 := hh.i3
  have ht64 := hh.t64
  have f4 : decide (16 < (p.params.length : Int)) = false := decide_eq_false (by omega)
  have f6 : decide (3 < (p.inter.length : Int)) = false := decide_eq_false (by omega)
  have f7 : decide (64 < (p.text.length : Int)) = false := decide_eq_false (by omega)
  have hb0 : Below w.heap.size w (w.alloc (.cells #[.int .i64 p.state, .string ⟨p.part.toArray⟩, .slice A p.params.length c, .string ⟨p.inter.toArray⟩, .string ⟨p.text.toArray⟩] 31)) := (Below.refl _ _).alloc (Nat.le_refl _) _
  have hblk := heap_alloc_new w (.cells #[.int .i64 p.state, .string ⟨p.part.toArray⟩, .slice A p.params.length c, .string ⟨p.inter.toArray⟩, .string ⟨p.text.toArray⟩] 31)
  have HB0 := Lib.hid hb0
  have HBLK := Lib.hid hblk
  have HS := Lib.hid hh.s
  have HF := Lib.hid hh.fit
  clear hu hh hp hb0 hblk hf
  have f5 : decide (0 < p.params.length) = true := decide_eq_true e5
  have f5s := bne_no e3
  rw [e] at HB0 HBLK HF HP ⊢
  have E3 := Lib.hid e3
  clear hpe e e5 e3
  go_enter Tryd.func9, Tryd.ntmps9
  go_wp2_with fail
  refine (between0_at p.state 0 8 _ HS.out _).mono ?_; rintro e w' ⟨rfl, rfl⟩
  go_wp2_with fail
  refine (may_at ⟨#[]⟩ _ HF.out _ HP.out).mono ?_; rintro e w1 ⟨rfl, hb1⟩
  have hbk1 : w1.heap[w.heap.size]? = some (.cells #[.int .i64 p.state, .string ⟨#[]⟩, .slice A p.params.length c, .string ⟨p.inter.toArray⟩, .string ⟨p.text.toArray⟩] 31) := (hb1.block _ (by simp)).trans HBLK.out
  have q0 : w1.cell? ⟨w.heap.size, 0, none⟩ = some (.int .i64 p.state) := block_cell0 hbk1 0
  have q1 : w1.cell? ⟨w.heap.size, 1, none⟩ = some (.string ⟨#[]⟩) := block_cell0 hbk1 1
  have q2 : w1.cell? ⟨w.heap.size, 2, none⟩ = some (.slice A p.params.length c) := block_cell0 hbk1 2
  have q3 : w1.cell? ⟨w.heap.size, 3, none⟩ = some (.string ⟨p.inter.toArray⟩) := block_cell0 hbk1 3
  have q4 : w1.cell? ⟨w.heap.size, 4, none⟩ = some (.string ⟨p.text.toArray⟩) := block_cell0 hbk1 4
  have HU1 := Lib.hid (Src.kept (Src.kept HU.out HB0.out) hb1)
  have HBB := Lib.hid (HB0.out.trans (hb1.mono HB0.out.size))
  clear hbk1 hb1
  go_wp2_with fail
  go_loop [3] (fun i => ∃ k : Nat, k ≤ p.params.length ∧ i = .int .i64 k ∧ Hid (∀ j, j < k → paramOk (p.params.getD j 0) = true)) (fun i => p.params.length - (intOf i).toNat)
  case atStart => exact ⟨0, by omega, rfl, Lib.hid (fun j hj => absurd hj (by omega))⟩
  case round =>
    obtain ⟨k, hk, rfl, HPA⟩ := hrel
    by_cases hlt : k < p.params.length
    · obtain ⟨A', c', hA, hf⟩ := HU1.out.form
      obtain ⟨ad, e, hE⟩ := hf k hlt
      injection hA with h1 h2 h3
      subst h1
      subst h3
      subst e
      rw [ints_get hlt] at hE
      clear hf h2
      cases hpo : paramOk (p.params.getD k 0)
      · have HN := Lib.hid (par_no hlt hpo)
        have HPO : Hid (rng (p.params.getD k 0) (-1) 9999 = false) := Lib.hid hpo
        clear hpo
        generalize p.params.getD k 0 = x at hE HPO
        go_wp2_with fail
        refine (between0_at x (-1) 9999 _ HPO.out _).mono ?_; rintro e w' ⟨rfl, rfl⟩
        go_wp2_with fail
        go_ret
        exact ⟨ret_bool HN.out.symm, HBB.out⟩
      · have HPO : Hid (rng (p.params.getD k 0) (-1) 9999 = true) := Lib.hid hpo
        have HPA2 : Hid (∀ j, j < k + 1 → paramOk (p.params.getD j 0) = true) := Lib.hid (fun j hj => by
          by_cases e : j = k
          · subst e; exact hpo
          · exact HPA.out j (by omega))
        clear hpo
        generalize p.params.getD k 0 = x at hE HPO
        go_wp2_with fail
        refine (between0_at x (-1) 9999 _ HPO.out _).mono ?_; rintro e w' ⟨rfl, rfl⟩
        go_wp2_with fail
        go_round
        case rel => exact ⟨k + 1, by omega, by go_num, HPA2⟩
        case measure => simp [intOf]; omega
    · have hdk : decide (k < p.params.length) = false := decide_eq_false hlt
      have HPAR : Hid (p.params.all paramOk = true) := Lib.hid (List.all_eq_true.2 fun x hx => by
        obtain ⟨j, hj, rfl⟩ := List.getElem_of_mem hx
        have := HPA.out j (by omega)
        simpa [List.getD, hj] using this)
      clear hlt HPA
      go_wp2_with fail
      go_loop [4] (fun i => ∃ k : Nat, k ≤ p.inter.length ∧ i = .int .i64 k ∧ Hid (intersOk (decide (p.state = 3)) 0 (p.inter.take k) = true)) (fun i => p.inter.length - (intOf i).toNat)
      case atStart => exact ⟨0, by omega, rfl, Lib.hid rfl⟩
      case round =>
        obtain ⟨k2, hk2, rfl, HIA⟩ := hrel
        by_cases hlt : k2 < p.inter.length
        · have hsa := str_at p.inter k2 hlt
          have hxb := Utf.byte_lt (p.inter.getD k2 0)
          have HIO : Hid (∀ v, interOk (decide (p.state = 3)) k2 (p.inter.getD k2 0) = v → (v = true → intersOk (decide (p.state = 3)) 0 (p.inter.take (k2 + 1)) = true) ∧ (v = false → okB p = false)) :=
            Lib.hid (fun v hv => ⟨fun h => int_yes hlt HIA.out (by rw [hv, h]), fun h => int_no hlt (by rw [hv, h])⟩)
          generalize p.inter.getD k2 0 = x at hsa hxb HIO
          by_cases m0 : 32 ≤ x.toNat ∧ x.toNat ≤ 47
          · have HY : Hid (intersOk (decide (p.state = 3)) 0 (p.inter.take (k2 + 1)) = true) := Lib.hid ((HIO.out true (interOk_mid m0.1 m0.2)).1 rfl)
            have g1 : decide (32 ≤ (x.toNat : Int)) = true := decide_eq_true (by omega)
            have g2 : decide ((x.toNat : Int) ≤ 47) = true := decide_eq_true (by omega)
            have g3 : decide (60 ≤ (x.toNat : Int)) = false := decide_eq_false (by omega)
            have hpv : ((k2 : Int) == 0) = false ∨ (((k2 : Int) == 0) = true ∧ (p.state == 3) = false) ∨ (((k2 : Int) == 0) = true ∧ (p.state == 3) = true) := by
              cases ((k2 : Int) == 0) <;> cases (p.state == 3) <;> simp
            clear HIO m0
            rcases hpv with v0 | ⟨v0, v1⟩ | ⟨v0, v1⟩
            all_goals
              go_wp2_with fail
              go_round
              case rel => exact ⟨k2 + 1, by omega, by go_num, HY⟩
              case measure => simp [intOf]; omega
          · by_cases pv : k2 = 0 ∧ p.state = 3 ∧ 60 ≤ x.toNat ∧ x.toNat ≤ 63
            · have HY : Hid (intersOk (decide (p.state = 3)) 0 (p.inter.take (k2 + 1)) = true) := Lib.hid ((HIO.out true (by
                unfold interOk; rw [decide_eq_true pv.1, decide_eq_true pv.2.1, decide_eq_true pv.2.2.1, decide_eq_true pv.2.2.2]; rfl)).1 rfl)
              obtain ⟨p1, p2, p3, p4⟩ := pv
              have g0 : ((k2 : Int) == 0) = true := by rw [beq_iff_eq]; omega
              have g3 : decide (60 ≤ (x.toNat : Int)) = true := decide_eq_true (by omega)
              have g4 : decide ((x.toNat : Int) ≤ 63) = true := decide_eq_true (by omega)
              have g5 : (p.state == 3) = true := beq_iff_eq.2 p2
              clear HIO m0 p1 p2 p3 p4
              go_wp2_with fail
              go_round
              case rel => exact ⟨k2 + 1, by omega, by go_num, HY⟩
              case measure => simp [intOf]; omega
            · have HN : Hid (okB p = false) := Lib.hid ((HIO.out false (by
                unfold interOk
                rw [Bool.or_eq_false_iff]
                constructor
                · cases h : (decide (k2 = 0) && decide (p.state = 3) && decide (60 ≤ x.toNat) && decide (x.toNat ≤ 63))
                  · rfl
                  · exfalso
                    simp only [Bool.and_eq_true, decide_eq_true_eq] at h
                    exact pv ⟨h.1.1.1, h.1.1.2, h.1.2, h.2⟩
                · cases h : (decide (32 ≤ x.toNat) && decide (x.toNat ≤ 47))
                  · rfl
                  · exfalso
                    simp only [Bool.and_eq_true, decide_eq_true_eq] at h
                    exact m0 h)).2 rfl)
              have hm : (decide (32 ≤ (x.toNat : Int)) = false) ∨ (decide (32 ≤ (x.toNat : Int)) = true ∧ decide ((x.toNat : Int) ≤ 47) = false) := by
                by_cases e : 32 ≤ x.toNat
                · right; exact ⟨decide_eq_true (by omega), decide_eq_false (by omega)⟩
                · left; exact decide_eq_false (by omega)
              have hpv : ((k2 : Int) == 0) = false ∨ (((k2 : Int) == 0) = true ∧ (p.state == 3) = false) ∨ (((k2 : Int) == 0) = true ∧ (p.state == 3) = true ∧ decide (60 ≤ (x.toNat : Int)) = false) ∨ (((k2 : Int) == 0) = true ∧ (p.state == 3) = true ∧ decide (60 ≤ (x.toNat : Int)) = true ∧ decide ((x.toNat : Int) ≤ 63) = false) := by
                by_cases e0 : k2 = 0
                · have z0 : ((k2 : Int) == 0) = true := by rw [beq_iff_eq]; omega
                  by_cases e1 : p.state = 3
                  · by_cases e2 : 60 ≤ x.toNat
                    · exact .inr (.inr (.inr ⟨z0, beq_iff_eq.2 e1, decide_eq_true (by omega), decide_eq_false (fun h => pv ⟨e0, e1, e2, by omega⟩)⟩))
                    · exact .inr (.inr (.inl ⟨z0, beq_iff_eq.2 e1, decide_eq_false (by omega)⟩))
                  · exact .inr (.inl ⟨z0, beq_no e1⟩)
                · exact .inl (beq_no (by omega))
              clear HIO m0 pv
              rcases hm with m1 | ⟨m1, m2⟩
              all_goals rcases hpv with v0 | ⟨v0, v1⟩ | ⟨v0, v1, v2⟩ | ⟨v0, v1, v2, v3⟩
              all_goals
                go_wp2_with fail
                all_goals
                  go_ret
                  exact ⟨ret_bool HN.out.symm, HBB.out⟩
        · have hdk2 : decide (k2 < p.inter.length) = false := decide_eq_false hlt
          have HINT : Hid (intersOk (decide (p.state = 3)) 0 p.inter = true) := Lib.hid (by
            have := HIA.out
            rwa [List.take_of_length_le (by omega)] at this)
          clear hlt HIA
          by_cases hr : p.state ≠ 3 ∧ ¬ (p.state = 2 ↔ p.inter ≠ [])
          · exact absurd E3.out hr.1
          · have HR : Hid (restOk p = true) := Lib.hid (by
              unfold restOk
              by_cases e3 : p.state = 3
              · rw [decide_eq_false (fun h => h e3)]; rfl
              · have hi : p.state = 2 ↔ p.inter ≠ [] := Classical.not_not.1 fun h => hr ⟨e3, h⟩
                rw [decide_eq_true e3, show decide (p.state = 2) = decide (p.inter ≠ []) from by rw [decide_eq_decide]; exact hi]
                cases decide (p.inter ≠ []) <;> rfl)
            have hx : ((p.state == 3) = true ∧ (p.state != 3) = false) ∨ ((p.state != 3) = true ∧ (p.state == 2) = true ∧ p.inter.isEmpty = false) ∨ ((p.state != 3) = true ∧ (p.state == 2) = false ∧ p.inter.isEmpty = true) := by
              by_cases e3 : p.state = 3
              · exact .inl ⟨beq_iff_eq.2 e3, bne_no e3⟩
              · have hi : p.state = 2 ↔ p.inter ≠ [] := Classical.not_not.1 fun h => hr ⟨e3, h⟩
                by_cases e2 : p.state = 2
                · exact .inr (.inl ⟨bne_yes e3, beq_iff_eq.2 e2, emp_no (hi.1 e2)⟩)
                · refine .inr (.inr ⟨bne_yes e3, beq_no e2, ?_⟩)
                  have : p.inter = [] := Classical.not_not.1 fun h => e2 (hi.2 h)
                  rw [this]; rfl
            clear hr
            rcases hx with ⟨x1, x2⟩ | ⟨x1, x2, x3⟩ | ⟨x1, x2, x3⟩
            all_goals
              go_wp2_with fail
              go_loop [6] (fun i => ∃ k : Nat, k ≤ p.text.length ∧ i = .int .i64 k ∧ Hid (∀ j, j < k → 32 ≤ (p.text.getD j 0).toNat)) (fun i => p.text.length - (intOf i).toNat)
              case atStart => exact ⟨0, by omega, rfl, Lib.hid (fun j hj => absurd hj (by omega))⟩
              case round =>
                obtain ⟨k3, hk3, rfl, HTA⟩ := hrel
                by_cases hlt : k3 < p.text.length
                · have hsa := str_at p.text k3 hlt
                  have hxb := Utf.byte_lt (p.text.getD k3 0)
                  by_cases h32 : (p.text.getD k3 0).toNat < 32
                  · have HN : Hid (okB p = false) := Lib.hid (txt_no hlt h32)
                    have g1 : decide (((p.text.getD k3 0).toNat : Int) < 32) = true := decide_eq_true (by omega)
                    generalize p.text.getD k3 0 = x at hsa hxb g1
                    clear h32
                    go_wp2_with fail
                    go_ret
                    exact ⟨ret_bool HN.out.symm, HBB.out⟩
                  · have HTA2 : Hid (∀ j, j < k3 + 1 → 32 ≤ (p.text.getD j 0).toNat) := Lib.hid (fun j hj => by
                      by_cases e : j = k3
                      · subst e; omega
                      · exact HTA.out j (by omega))
                    have g1 : decide (((p.text.getD k3 0).toNat : Int) < 32) = false := decide_eq_false (by omega)
                    clear h32
                    generalize p.text.getD k3 0 = x at hsa hxb g1
                    go_wp2_with fail
                    go_round
                    case rel => exact ⟨k3 + 1, by omega, by go_num, HTA2⟩
                    case measure => simp [intOf]; omega
                · have hdk3 : decide (k3 < p.text.length) = false := decide_eq_false hlt
                  have HF2 : Hid (okB p = (p.text.isEmpty || ((p.state == 5) || (p.state == 7)))) := Lib.hid (ok_fin HH.out HPAR.out HINT.out HR.out (fun j hj => HTA.out j (by omega)))
                  clear hlt HTA
                  have hz : p.text.isEmpty = true ∨ (p.text.isEmpty = false ∧ (p.state == 5) = true) ∨ (p.text.isEmpty = false ∧ (p.state == 5) = false ∧ (p.state == 7) = true) ∨ (p.text.isEmpty = false ∧ (p.state == 5) = false ∧ (p.state == 7) = false) := by
                    cases p.text.isEmpty <;> cases (p.state == 5) <;> cases (p.state == 7) <;> simp
                  rcases hz with z1 | ⟨z1, z2⟩ | ⟨z1, z2, z3⟩ | ⟨z1, z2, z3⟩
                  all_goals
                    go_wp2_with fail
                    go_ret
                    exact ⟨ret_bool (by rw [HF2.out]; simp [*]), HBB.out⟩

set_option maxRecDepth 100000 in
set_option maxHeartbeats 6400000 in
theorem state_v3 (p : Ps) (u : Value) (w : World) (hu : Src w u p.params.length (ints p.params)) (hh : Head p) (e : p.part ≠ []) (e5 : p.params.length = 0) (e0 : p.state = 0) :
    Calls Tryd.prog 9 #[.agg #[.int .i64 p.state, .string ⟨p.part.toArray⟩, u, .string ⟨p.inter.toArray⟩, .string ⟨p.text.toArray⟩]] w fun e w' => e = .returned (.bool (okB p)) ∧ Below w.heap.size w w' := by
  obtain ⟨A, c, rfl, hf⟩ := hu.form
  have hpe := strE p.part
  have hie := strE p.inter
  have hte := strE p.text
  have HU := Lib.hid hu
  have HH := Lib.hid hh
  have hp : (⟨p.part.toArray⟩ : ByteArray).size ≤ 1000000 := by have := Utf.fits_len hh.fit; show p.part.length ≤ _; omega
  have HP := Lib.hid hp
  have hn16 := hh.n16
  have hi3 := hh.i3
  have ht64 := hh.t64
  have f4 : decide (16 < (p.params.length : Int)) = false := decide_eq_false (by omega)
  have f6 : decide (3 < (p.inter.length : Int)) = false := decide_eq_false (by omega)
  have f7 : decide (64 < (p.text.length : Int)) = false := decide_eq_false (by omega)
  have hb0 : Below w.heap.size w (w.alloc (.cells #[.int .i64 p.state, .string ⟨p.part.toArray⟩, .slice A p.params.length c, .string ⟨p.inter.toArray⟩, .string ⟨p.text.toArray⟩] 31)) := (Below.refl _ _).alloc (Nat.le_refl _) _
  have hblk := heap_alloc_new w (.cells #[.int .i64 p.state, .string ⟨p.part.toArray⟩, .slice A p.params.length c, .string ⟨p.inter.toArray⟩, .string ⟨p.text.toArray⟩] 31)
  have HB0 := Lib.hid hb0
  have HBLK := Lib.hid hblk
  have HS := Lib.hid hh.s
  have HF := Lib.hid hh.fit
  clear hu hh hp hb0 hblk hf
  have f5 : decide (0 < p.params.length) = false := decide_eq_false (by omega)
  rw [emp_no e] at hpe
  have f3 := bne_no e0
  clear e5 e0
  go_enter Tryd.func9, Tryd.ntmps9
  go_wp2_with fail
  refine (between0_at p.state 0 8 _ HS.out _).mono ?_; rintro e w' ⟨rfl, rfl⟩
  go_wp2_with fail
  refine (may_at ⟨p.part.toArray⟩ _ HF.out _ HP.out).mono ?_; rintro e w1 ⟨rfl, hb1⟩
  have hbk1 : w1.heap[w.heap.size]? = some (.cells #[.int .i64 p.state, .string ⟨p.part.toArray⟩, .slice A p.params.length c, .string ⟨p.inter.toArray⟩, .string ⟨p.text.toArray⟩] 31) := (hb1.block _ (by simp)).trans HBLK.out
  have q0 : w1.cell? ⟨w.heap.size, 0, none⟩ = some (.int .i64 p.state) := block_cell0 hbk1 0
  have q1 : w1.cell? ⟨w.heap.size, 1, none⟩ = some (.string ⟨p.part.toArray⟩) := block_cell0 hbk1 1
  have q2 : w1.cell? ⟨w.heap.size, 2, none⟩ = some (.slice A p.params.length c) := block_cell0 hbk1 2
  have q3 : w1.cell? ⟨w.heap.size, 3, none⟩ = some (.string ⟨p.inter.toArray⟩) := block_cell0 hbk1 3
  have q4 : w1.cell? ⟨w.heap.size, 4, none⟩ = some (.string ⟨p.text.toArray⟩) := block_cell0 hbk1 4
  have HU1 := Lib.hid (Src.kept (Src.kept HU.out HB0.out) hb1)
  have HBB := Lib.hid (HB0.out.trans (hb1.mono HB0.out.size))
  clear hbk1 hb1
  go_wp2_with fail
  go_loop [3] (fun i => ∃ k : Nat, k ≤ p.params.length ∧ i = .int .i64 k ∧ Hid (∀ j, j < k → paramOk (p.params.getD j 0) = true)) (fun i => p.params.length - (intOf i).toNat)
  case atStart => exact ⟨0, by omega, rfl, Lib.hid (fun j hj => absurd hj (by omega))⟩
  case round =>
    obtain ⟨k, hk, rfl, HPA⟩ := hrel
    by_cases hlt : k < p.params.length
    · obtain ⟨A', c', hA, hf⟩ := HU1.out.form
      obtain ⟨ad, e, hE⟩ := hf k hlt
      injection hA with h1 h2 h3
      subst h1
      subst h3
      subst e
      rw [ints_get hlt] at hE
      clear hf h2
      cases hpo : paramOk (p.params.getD k 0)
      · have HN := Lib.hid (par_no hlt hpo)
        have HPO : Hid (rng (p.params.getD k 0) (-1) 9999 = false) := Lib.hid hpo
        clear hpo
        generalize p.params.getD k 0 = x at hE HPO
        go_wp2_with fail
        refine (between0_at x (-1) 9999 _ HPO.out _).mono ?_; rintro e w' ⟨rfl, rfl⟩
        go_wp2_with fail
        go_ret
        exact ⟨ret_bool HN.out.symm, HBB.out⟩
      · have HPO : Hid (rng (p.params.getD k 0) (-1) 9999 = true) := Lib.hid hpo
        have HPA2 : Hid (∀ j, j < k + 1 → paramOk (p.params.getD j 0) = true) := Lib.hid (fun j hj => by
          by_cases e : j = k
          · subst e; exact hpo
          · exact HPA.out j (by omega))
        clear hpo
        generalize p.params.getD k 0 = x at hE HPO
        go_wp2_with fail
        refine (between0_at x (-1) 9999 _ HPO.out _).mono ?_; rintro e w' ⟨rfl, rfl⟩
        go_wp2_with fail
        go_round
        case rel => exact ⟨k + 1, by omega, by go_num, HPA2⟩
        case measure => simp [intOf]; omega
    · have hdk : decide (k < p.params.length) = false := decide_eq_false hlt
      have HPAR : Hid (p.params.all paramOk = true) := Lib.hid (List.all_eq_true.2 fun x hx => by
        obtain ⟨j, hj, rfl⟩ := List.getElem_of_mem hx
        have := HPA.out j (by omega)
        simpa [List.getD, hj] using this)
      clear hlt HPA
      go_wp2_with fail
      go_loop [4] (fun i => ∃ k : Nat, k ≤ p.inter.length ∧ i = .int .i64 k ∧ Hid (intersOk (decide (p.state = 3)) 0 (p.inter.take k) = true)) (fun i => p.inter.length - (intOf i).toNat)
      case atStart => exact ⟨0, by omega, rfl, Lib.hid rfl⟩
      case round =>
        obtain ⟨k2, hk2, rfl, HIA⟩ := hrel
        by_cases hlt : k2 < p.inter.length
        · have hsa := str_at p.inter k2 hlt
          have hxb := Utf.byte_lt (p.inter.getD k2 0)
          have HIO : Hid (∀ v, interOk (decide (p.state = 3)) k2 (p.inter.getD k2 0) = v → (v = true → intersOk (decide (p.state = 3)) 0 (p.inter.take (k2 + 1)) = true) ∧ (v = false → okB p = false)) :=
            Lib.hid (fun v hv => ⟨fun h => int_yes hlt HIA.out (by rw [hv, h]), fun h => int_no hlt (by rw [hv, h])⟩)
          generalize p.inter.getD k2 0 = x at hsa hxb HIO
          by_cases m0 : 32 ≤ x.toNat ∧ x.toNat ≤ 47
          · have HY : Hid (intersOk (decide (p.state = 3)) 0 (p.inter.take (k2 + 1)) = true) := Lib.hid ((HIO.out true (interOk_mid m0.1 m0.2)).1 rfl)
            have g1 : decide (32 ≤ (x.toNat : Int)) = true := decide_eq_true (by omega)
            have g2 : decide ((x.toNat : Int) ≤ 47) = true := decide_eq_true (by omega)
            have g3 : decide (60 ≤ (x.toNat : Int)) = false := decide_eq_false (by omega)
            have hpv : ((k2 : Int) == 0) = false ∨ (((k2 : Int) == 0) = true ∧ (p.state == 3) = false) ∨ (((k2 : Int) == 0) = true ∧ (p.state == 3) = true) := by
              cases ((k2 : Int) == 0) <;> cases (p.state == 3) <;> simp
            clear HIO m0
            rcases hpv with v0 | ⟨v0, v1⟩ | ⟨v0, v1⟩
            all_goals
              go_wp2_with fail
              go_round
              case rel => exact ⟨k2 + 1, by omega, by go_num, HY⟩
              case measure => simp [intOf]; omega
          · by_cases pv : k2 = 0 ∧ p.state = 3 ∧ 60 ≤ x.toNat ∧ x.toNat ≤ 63
            · have HY : Hid (intersOk (decide (p.state = 3)) 0 (p.inter.take (k2 + 1)) = true) := Lib.hid ((HIO.out true (by
                unfold interOk; rw [decide_eq_true pv.1, decide_eq_true pv.2.1, decide_eq_true pv.2.2.1, decide_eq_true pv.2.2.2]; rfl)).1 rfl)
              obtain ⟨p1, p2, p3, p4⟩ := pv
              have g0 : ((k2 : Int) == 0) = true := by rw [beq_iff_eq]; omega
              have g3 : decide (60 ≤ (x.toNat : Int)) = true := decide_eq_true (by omega)
              have g4 : decide ((x.toNat : Int) ≤ 63) = true := decide_eq_true (by omega)
              have g5 : (p.state == 3) = true := beq_iff_eq.2 p2
              clear HIO m0 p1 p2 p3 p4
              go_wp2_with fail
              go_round
              case rel => exact ⟨k2 + 1, by omega, by go_num, HY⟩
              case measure => simp [intOf]; omega
            · have HN : Hid (okB p = false) := Lib.hid ((HIO.out false (by
                unfold interOk
                rw [Bool.or_eq_false_iff]
                constructor
                · cases h : (decide (k2 = 0) && decide (p.state = 3) && decide (60 ≤ x.toNat) && decide (x.toNat ≤ 63))
                  · rfl
                  · exfalso
                    simp only [Bool.and_eq_true, decide_eq_true_eq] at h
                    exact pv ⟨h.1.1.1, h.1.1.2, h.1.2, h.2⟩
                · cases h : (decide (32 ≤ x.toNat) && decide (x.toNat ≤ 47))
                  · rfl
                  · exfalso
                    simp only [Bool.and_eq_true, decide_eq_true_eq] at h
                    exact m0 h)).2 rfl)
              have hm : (decide (32 ≤ (x.toNat : Int)) = false) ∨ (decide (32 ≤ (x.toNat : Int)) = true ∧ decide ((x.toNat : Int) ≤ 47) = false) := by
                by_cases e : 32 ≤ x.toNat
                · right; exact ⟨decide_eq_true (by omega), decide_eq_false (by omega)⟩
                · left; exact decide_eq_false (by omega)
              have hpv : ((k2 : Int) == 0) = false ∨ (((k2 : Int) == 0) = true ∧ (p.state == 3) = false) ∨ (((k2 : Int) == 0) = true ∧ (p.state == 3) = true ∧ decide (60 ≤ (x.toNat : Int)) = false) ∨ (((k2 : Int) == 0) = true ∧ (p.state == 3) = true ∧ decide (60 ≤ (x.toNat : Int)) = true ∧ decide ((x.toNat : Int) ≤ 63) = false) := by
                by_cases e0 : k2 = 0
                · have z0 : ((k2 : Int) == 0) = true := by rw [beq_iff_eq]; omega
                  by_cases e1 : p.state = 3
                  · by_cases e2 : 60 ≤ x.toNat
                    · exact .inr (.inr (.inr ⟨z0, beq_iff_eq.2 e1, decide_eq_true (by omega), decide_eq_false (fun h => pv ⟨e0, e1, e2, by omega⟩)⟩))
                    · exact .inr (.inr (.inl ⟨z0, beq_iff_eq.2 e1, decide_eq_false (by omega)⟩))
                  · exact .inr (.inl ⟨z0, beq_no e1⟩)
                · exact .inl (beq_no (by omega))
              clear HIO m0 pv
              rcases hm with m1 | ⟨m1, m2⟩
              all_goals rcases hpv with v0 | ⟨v0, v1⟩ | ⟨v0, v1, v2⟩ | ⟨v0, v1, v2, v3⟩
              all_goals
                go_wp2_with fail
                all_goals
                  go_ret
                  exact ⟨ret_bool HN.out.symm, HBB.out⟩
        · have hdk2 : decide (k2 < p.inter.length) = false := decide_eq_false hlt
          have HINT : Hid (intersOk (decide (p.state = 3)) 0 p.inter = true) := Lib.hid (by
            have := HIA.out
            rwa [List.take_of_length_le (by omega)] at this)
          clear hlt HIA
          by_cases hr : p.state ≠ 3 ∧ ¬ (p.state = 2 ↔ p.inter ≠ [])
          · have HN : Hid (okB p = false) := Lib.hid (not_ok fun ok => hr.2 ⟨ok.two, fun h => by
              by_cases e : p.state = 2
              · exact e
              · exact absurd (ok.non e hr.1) h⟩)
            have hx : (p.state == 2) = true ∧ p.inter = [] ∨ (p.state == 2) = false ∧ p.inter ≠ [] := by
              by_cases e : p.state = 2
              · left; refine ⟨beq_iff_eq.2 e, ?_⟩
                by_cases e2 : p.inter = []
                · exact e2
                · exact absurd ⟨fun _ => e2, fun _ => e⟩ hr.2
              · right; refine ⟨beq_no e, fun e2 => hr.2 ⟨fun h => absurd h e, fun h => absurd e2 h⟩⟩
            have z3 := bne_yes hr.1
            have z3b := beq_no hr.1
            clear hr
            rcases hx with ⟨x1, x2⟩ | ⟨x1, x2⟩
            · have xe : p.inter.isEmpty = true := by rw [x2]; rfl
              clear x2
              go_wp2_with fail
              go_ret
              exact ⟨ret_bool HN.out.symm, HBB.out⟩
            · have xe := emp_no x2
              clear x2
              go_wp2_with fail
              go_ret
              exact ⟨ret_bool HN.out.symm, HBB.out⟩
          · have HR : Hid (restOk p = true) := Lib.hid (by
              unfold restOk
              by_cases e3 : p.state = 3
              · rw [decide_eq_false (fun h => h e3)]; rfl
              · have hi : p.state = 2 ↔ p.inter ≠ [] := Classical.not_not.1 fun h => hr ⟨e3, h⟩
                rw [decide_eq_true e3, show decide (p.state = 2) = decide (p.inter ≠ []) from by rw [decide_eq_decide]; exact hi]
                cases decide (p.inter ≠ []) <;> rfl)
            have hx : ((p.state == 3) = true ∧ (p.state != 3) = false) ∨ ((p.state != 3) = true ∧ (p.state == 2) = true ∧ p.inter.isEmpty = false) ∨ ((p.state != 3) = true ∧ (p.state == 2) = false ∧ p.inter.isEmpty = true) := by
              by_cases e3 : p.state = 3
              · exact .inl ⟨beq_iff_eq.2 e3, bne_no e3⟩
              · have hi : p.state = 2 ↔ p.inter ≠ [] := Classical.not_not.1 fun h => hr ⟨e3, h⟩
                by_cases e2 : p.state = 2
                · exact .inr (.inl ⟨bne_yes e3, beq_iff_eq.2 e2, emp_no (hi.1 e2)⟩)
                · refine .inr (.inr ⟨bne_yes e3, beq_no e2, ?_⟩)
                  have : p.inter = [] := Classical.not_not.1 fun h => e2 (hi.2 h)
                  rw [this]; rfl
            clear hr
            rcases hx with ⟨x1, x2⟩ | ⟨x1, x2, x3⟩ | ⟨x1, x2, x3⟩
            all_goals
              go_wp2_with fail
              go_loop [6] (fun i => ∃ k : Nat, k ≤ p.text.length ∧ i = .int .i64 k ∧ Hid (∀ j, j < k → 32 ≤ (p.text.getD j 0).toNat)) (fun i => p.text.length - (intOf i).toNat)
              case atStart => exact ⟨0, by omega, rfl, Lib.hid (fun j hj => absurd hj (by omega))⟩
              case round =>
                obtain ⟨k3, hk3, rfl, HTA⟩ := hrel
                by_cases hlt : k3 < p.text.length
                · have hsa := str_at p.text k3 hlt
                  have hxb := Utf.byte_lt (p.text.getD k3 0)
                  by_cases h32 : (p.text.getD k3 0).toNat < 32
                  · have HN : Hid (okB p = false) := Lib.hid (txt_no hlt h32)
                    have g1 : decide (((p.text.getD k3 0).toNat : Int) < 32) = true := decide_eq_true (by omega)
                    generalize p.text.getD k3 0 = x at hsa hxb g1
                    clear h32
                    go_wp2_with fail
                    go_ret
                    exact ⟨ret_bool HN.out.symm, HBB.out⟩
                  · have HTA2 : Hid (∀ j, j < k3 + 1 → 32 ≤ (p.text.getD j 0).toNat) := Lib.hid (fun j hj => by
                      by_cases e : j = k3
                      · subst e; omega
                      · exact HTA.out j (by omega))
                    have g1 : decide (((p.text.getD k3 0).toNat : Int) < 32) = false := decide_eq_false (by omega)
                    clear h32
                    generalize p.text.getD k3 0 = x at hsa hxb g1
                    go_wp2_with fail
                    go_round
                    case rel => exact ⟨k3 + 1, by omega, by go_num, HTA2⟩
                    case measure => simp [intOf]; omega
                · have hdk3 : decide (k3 < p.text.length) = false := decide_eq_false hlt
                  have HF2 : Hid (okB p = (p.text.isEmpty || ((p.state == 5) || (p.state == 7)))) := Lib.hid (ok_fin HH.out HPAR.out HINT.out HR.out (fun j hj => HTA.out j (by omega)))
                  clear hlt HTA
                  have hz : p.text.isEmpty = true ∨ (p.text.isEmpty = false ∧ (p.state == 5) = true) ∨ (p.text.isEmpty = false ∧ (p.state == 5) = false ∧ (p.state == 7) = true) ∨ (p.text.isEmpty = false ∧ (p.state == 5) = false ∧ (p.state == 7) = false) := by
                    cases p.text.isEmpty <;> cases (p.state == 5) <;> cases (p.state == 7) <;> simp
                  rcases hz with z1 | ⟨z1, z2⟩ | ⟨z1, z2, z3⟩ | ⟨z1, z2, z3⟩
                  all_goals
                    go_wp2_with fail
                    go_ret
                    exact ⟨ret_bool (by rw [HF2.out]; simp [*]), HBB.out⟩
theorem state_any (p : Ps) (u : Value) (w : World) (hu : Src w u p.params.length (ints p.params)) (hp : p.part.length ≤ 1000000) :
    Calls Tryd.prog 9 #[.agg #[.int .i64 p.state, .string ⟨p.part.toArray⟩, u, .string ⟨p.inter.toArray⟩, .string ⟨p.text.toArray⟩]] w fun e w' => e = .returned (.bool (okB p)) ∧ Below w.heap.size w w' := by
  by_cases hh : Head p
  · by_cases e : p.part = []
    · by_cases e5 : p.params.length = 0
      · exact state_v1 p u w hu hh e e5
      · exact state_v2 p u w hu hh e (by omega) (by rcases hh.csi with h | h; exact absurd h e5; exact h)
    · have e0 : p.state = 0 := by rcases hh.part with h | h; exact absurd h e; exact h
      exact state_v3 p u w hu hh e (by rcases hh.csi with h | h; exact h; omega) e0
  · refine (state_head p u w hu hp hh).mono fun e w' ⟨he, hb⟩ => ⟨?_, hb⟩
    rw [he, not_ok (fun ok => hh ok.head)]
end Vt
end Go.Proofs.YtjodbmfjdpbbnaaDoor
