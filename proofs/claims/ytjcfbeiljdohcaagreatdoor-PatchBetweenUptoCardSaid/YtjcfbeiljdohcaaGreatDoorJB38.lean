/- Joined texts: PatLawB. -/
import Derived.Test.YtjcfbeiljdohcaaGreatDoorJB37
namespace Go.Proofs.YtjcfbeiljdohcaaGreatDoor
set_option maxRecDepth 100000
section
open Go.RowKit
namespace Pat
open Go.Proofs.YtjcfbeiljdohcaaGreatDoor.Row Go.Proofs.YtjcfbeiljdohcaaGreatDoor.Scr Agb
set_option maxHeartbeats 25600000 in
theorem lawB_any (x y : Value) (V : List Ve) (P : List Pe) (w : World) (hV : Views 1048576 w x V) (hP : Pats 1048576 w y P) (hn : V.length ≤ 140737488355328) (hm : P.length ≤ 140737488355328) (hT : Tabs w) :
    Calls Tryz.prog 3 #[.agg #[x, y]] w fun e w' => e = .returned (.bool true) ∧ Below w.heap.size w w' := by
  have hW0 := (Below.refl w.heap.size w).alloc (Nat.le_refl _) (.cells #[x, y] 25 (0, 0))
  have HH := Lib.hid (heavy16 x y V P _ (hV.kept hW0) (hP.kept hW0) hn hm (by decide))
  have HWK := Lib.hid (fun W (hw : Below w.heap.size w W) => wakes16 W (hT.kept hw))
  have HB0 := Lib.hid hW0
  have HK0 : Hid ((w.alloc (.cells #[x, y] 25 (0, 0))).heap[w.heap.size]? = some (.cells #[x, y] 25 (0, 0))) := Lib.hid (new_alloc _ _ _ rfl)
  have HV := Lib.hid hV
  have HT := Lib.hid hT
  obtain ⟨A, c, rfl, _⟩ := hV.form
  obtain ⟨A', c', rfl, _⟩ := hP.form
  obtain ⟨n, hnn⟩ : ∃ n, V.length = n := ⟨_, rfl⟩
  obtain ⟨m, hmm⟩ : ∃ n, P.length = n := ⟨_, rfl⟩
  have HN := Lib.hid hnn
  rw [hnn] at HH HB0 HK0 HV hn ⊢
  rw [hmm] at HH HB0 HK0 ⊢
  clear hW0 hV hP hT hnn hmm hm
  go_enter Tryz.func3, Tryz.ntmps3
  go_wp2_with (refine wp_loadA aggAsk rfl rfl rfl HK0.out rfl ?_)
  refine HH.out.mono ?_; rintro e w1 ⟨b, rfl, hw, hb⟩
  have HB1 := Lib.hid (HB0.out.trans (hb.mono HB0.out.size))
  have HK1 := Lib.hid (Blk.kept HK0.out hb)
  have HW := Lib.hid hw
  clear hw hb HH HB0 HK0
  cases b
  case true =>
    go_wp2_with fail
    go_ret
    exact ⟨rfl, HB1.out⟩
  have HEL : Hid (∀ i, i < n → ∃ ad, A = some ad ∧ El w (ad.add (i * 7)) (V.getD i noVe).v (V.getD i noVe).x ∧ FitV (V.getD i noVe).v) := Lib.hid fun i hi => by
    obtain ⟨A2, c2, e2, hf⟩ := HV.out.form
    injection e2 with e2 _ _
    subst e2
    obtain ⟨ad, rfl, ha⟩ := hf i (by rw [HN.out]; exact hi)
    have h2 := HV.out.2 i (by rw [HN.out]; exact hi)
    exact ⟨ad, rfl, ⟨ha, h2.1⟩, fitV_of h2.2 ((HW.out rfl).1 i (by rw [HN.out]; exact hi))⟩
  clear HV HW
  go_wp2_with fail
  go_loopw [3] (fun s3 wr => ∃ i : Nat, i ≤ n ∧ s3 = .int .i64 i ∧ Hid (Below w1.heap.size w1 wr)) (fun s3 _ => n - (intOf s3).toNat)
  case atStart => exact ⟨0, by omega, rfl, Lib.hid (Below.refl _ _)⟩
  case round =>
    obtain ⟨i, hi, rfl, HBL⟩ := hrel
    have HBR := Lib.hid (HB1.out.trans (HBL.out.mono HB1.out.size))
    have HKR := Lib.hid (Blk.kept HK1.out HBL.out)
    have b0 : wr.cell? ⟨w.heap.size, 0, none⟩ = some (.slice A n c) := Blk.cell HKR.out 0
    by_cases hlt : i < n
    · obtain ⟨ad, rfl, he, hf⟩ := HEL.out i hlt
      by_cases h5 : i < 5
      · have d5 : decide ((i : Int) < 5) = true := decide_eq_true (by omega)
        obtain ⟨v, hv⟩ : ∃ v, (V.getD i noVe).v = v := ⟨_, rfl⟩
        obtain ⟨xe, hxe⟩ : ∃ x, (V.getD i noVe).x = x := ⟨_, rfl⟩
        rw [hv, hxe] at he
        rw [hv] at hf
        clear hv hxe
        have HE := Lib.hid he
        have HF := Lib.hid hf
        clear he hf
        go_wp2_with (refine wp_loadAt aggView (A := #[.int .i64 v.g.rows, .int .i64 v.g.cols, xe, .int .i64 v.row, .int .i64 v.col, .int .i64 v.modes, .string ⟨v.title.toArray⟩]) rfl rfl rfl (HE.out.kept HBR.out).at_ rfl ?_)
        refine (copyView_any v xe _ (HE.out.kept HBR.out).rm.cs (by have := HF.out.c; omega)).mono ?_; rintro e w2 ⟨y4, rfl, ho, hb⟩
        obtain ⟨A4, n4, c4, rfl⟩ : ∃ A n c, y4 = .slice A n c := (by obtain ⟨A, c, e⟩ := own_shape ho; exact ⟨A, _, c, e⟩)
        have HB4 : Hid (Below wr.heap.size wr (w2.alloc (.cells #[.int .i64 v.g.rows, .int .i64 v.g.cols, .slice A4 n4 c4, .int .i64 v.row, .int .i64 v.col, .int .i64 v.modes, .string ⟨v.title.toArray⟩] 31 (0, 0)))) := Lib.hid (hb.alloc hb.size _)
        have HO4 : Hid (OwnCs (w2.alloc (.cells #[.int .i64 v.g.rows, .int .i64 v.g.cols, .slice A4 n4 c4, .int .i64 v.row, .int .i64 v.col, .int .i64 v.modes, .string ⟨v.title.toArray⟩] 31 (0, 0))) wr.heap.size (.slice A4 n4 c4) v.g.cells) := Lib.hid (OwnCs.kept ho ((Below.refl _ _).alloc (Nat.le_refl _) _))
        have HV4 : Hid ((w2.alloc (.cells #[.int .i64 v.g.rows, .int .i64 v.g.cols, .slice A4 n4 c4, .int .i64 v.row, .int .i64 v.col, .int .i64 v.modes, .string ⟨v.title.toArray⟩] 31 (0, 0))).heap[w2.heap.size]? = some (.cells #[.int .i64 v.g.rows, .int .i64 v.g.cols, .slice A4 n4 c4, .int .i64 v.row, .int .i64 v.col, .int .i64 v.modes, .string ⟨v.title.toArray⟩] 31 (0, 0))) := Lib.hid (new_alloc _ _ _ rfl)
        clear ho hb b0 d5
        go_upto_region 7 with (fail)
        generalize w2.alloc (.cells #[.int .i64 v.g.rows, .int .i64 v.g.cols, .slice A4 n4 c4, .int .i64 v.row, .int .i64 v.col, .int .i64 v.modes, .string ⟨v.title.toArray⟩] 31 (0, 0)) = w4 at HB4 HO4 HV4 ⊢
        generalize w2.heap.size = b4 at HV4 ⊢
        have HC4 := Lib.hid (HBR.out.trans (HB4.out.mono HBR.out.size))
        have HK4 := Lib.hid (Blk.kept HKR.out HB4.out)
        have a0 : w4.cell? ⟨w.heap.size, 0, none⟩ = some (.slice (some ad) n c) := Blk.cell HK4.out 0
        go_wp2_with (refine wp_loadAt aggView (A := #[.int .i64 v.g.rows, .int .i64 v.g.cols, xe, .int .i64 v.row, .int .i64 v.col, .int .i64 v.modes, .string ⟨v.title.toArray⟩]) rfl rfl rfl (HE.out.kept HC4.out).at_ rfl ?_)
        refine (refView_any v xe _ (HE.out.kept HC4.out).rm HF.out.s (HT.out.kept HC4.out) (by have := HF.out.c; omega) (by have := HF.out.t; omega)).mono ?_; rintro e w5 ⟨rfl, hb⟩
        obtain ⟨may, hmay⟩ : ∃ b, viewB v = b := ⟨_, rfl⟩
        obtain ⟨pw, hpw⟩ : ∃ p, wholeD v = p := ⟨_, rfl⟩
        have HC5 := Lib.hid (HC4.out.trans (hb.mono HC4.out.size))
        have HK5 := Lib.hid (Blk.kept HK4.out hb)
        have HV5 := Lib.hid (Blk.kept HV4.out hb)
        have HO5 := Lib.hid (OwnCs.kept HO4.out hb)
        have HS5 : Hid (wr.heap.size ≤ w5.heap.size ∧ Below wr.heap.size wr w5) := Lib.hid (by have h := HB4.out.trans (hb.mono HB4.out.size); exact ⟨h.size, h⟩)
        have HS5O := Lib.hid (HBL.out.trans (HS5.out.2.mono HBL.out.size))
        rw [hmay]
        clear hb a0 HB4 HO4 HV4
        go_wp2_with (refine wp_loadV rfl rfl rfl HV5.out ?_)
        refine (whole_any v (.slice A4 n4 c4) _ HO5.out.rm HF.out.h (HT.out.kept HC5.out) (by have := HF.out.t; omega)).mono ?_; rintro e w6 ⟨uw, yw, rfl, hu, hy, hb⟩
        have hy : OwnCs w6 w5.heap.size yw pw.cells := by
          rw [← hpw]
          cases q : viewB v with
          | true => rw [wholeD_yes q]; rw [q] at hy; exact hy
          | false => rw [wholeD_no q]; rw [q] at hy; exact hy
        have hu : OwnN w6 w5.heap.size uw pw.at_ := by rw [← hpw, (wholeD_small v).2]; exact hu
        have hps : pw.cells.length ≤ 1600 ∧ pw.at_.length ≤ 40 := by rw [← hpw, (wholeD_small v).2]; exact ⟨(wholeD_small v).1, by simp⟩
        rw [show (if viewB v = true then whole v else noP) = pw from hpw, hmay]
        obtain ⟨Bu, mu, ku, rfl⟩ : ∃ A n c, uw = .slice A n c := (by obtain ⟨A, c, e⟩ := own_shape hu; exact ⟨A, _, c, e⟩)
        obtain ⟨Bv, mv, kv, rfl⟩ : ∃ A n c, yw = .slice A n c := (by obtain ⟨A, c, e⟩ := own_shape hy; exact ⟨A, _, c, e⟩)
        have hk6 : Below w5.heap.size w5 (w6.alloc (.cells #[.int .i64 pw.rows, .int .i64 pw.cols, .bool pw.all, .slice Bu mu ku, .slice Bv mv kv, .int .i64 pw.row, .int .i64 pw.col, .int .i64 pw.modes, .string ⟨pw.title.toArray⟩] 36 (0, 0))) := hb.alloc hb.size _
        have HB6 := Lib.hid hk6
        have HU6 : Hid (OwnN (w6.alloc (.cells #[.int .i64 pw.rows, .int .i64 pw.cols, .bool pw.all, .slice Bu mu ku, .slice Bv mv kv, .int .i64 pw.row, .int .i64 pw.col, .int .i64 pw.modes, .string ⟨pw.title.toArray⟩] 36 (0, 0))) w5.heap.size (.slice Bu mu ku) pw.at_) := Lib.hid (OwnN.kept hu ((Below.refl _ _).alloc (Nat.le_refl _) _))
        have HY6 : Hid (OwnCs (w6.alloc (.cells #[.int .i64 pw.rows, .int .i64 pw.cols, .bool pw.all, .slice Bu mu ku, .slice Bv mv kv, .int .i64 pw.row, .int .i64 pw.col, .int .i64 pw.modes, .string ⟨pw.title.toArray⟩] 36 (0, 0))) w5.heap.size (.slice Bv mv kv) pw.cells) := Lib.hid (OwnCs.kept hy ((Below.refl _ _).alloc (Nat.le_refl _) _))
        have HW6 : Hid ((w6.alloc (.cells #[.int .i64 pw.rows, .int .i64 pw.cols, .bool pw.all, .slice Bu mu ku, .slice Bv mv kv, .int .i64 pw.row, .int .i64 pw.col, .int .i64 pw.modes, .string ⟨pw.title.toArray⟩] 36 (0, 0))).heap[w6.heap.size]? = some (.cells #[.int .i64 pw.rows, .int .i64 pw.cols, .bool pw.all, .slice Bu mu ku, .slice Bv mv kv, .int .i64 pw.row, .int .i64 pw.col, .int .i64 pw.modes, .string ⟨pw.title.toArray⟩] 36 (0, 0))) := Lib.hid (new_alloc _ _ _ rfl)
        have HPS := Lib.hid hps
        have HMAY := Lib.hid hmay
        have HPW := Lib.hid hpw
        clear hu hy hb hk6 hps hmay hpw
        go_upto_region 9 with (fail)
        generalize w6.alloc (.cells #[.int .i64 pw.rows, .int .i64 pw.cols, .bool pw.all, .slice Bu mu ku, .slice Bv mv kv, .int .i64 pw.row, .int .i64 pw.col, .int .i64 pw.modes, .string ⟨pw.title.toArray⟩] 36 (0, 0)) = w7 at HB6 HU6 HY6 HW6 ⊢
        generalize w6.heap.size = b6 at HW6 ⊢
        have HZ8 : Hid ((w7.alloc (.cells #[.int .i64 0, .int .i64 0, .bool false, .slice none 0 0, .slice none 0 0, .int .i64 0, .int .i64 0, .int .i64 0, .string ⟨#[]⟩] 36 (0, 0))).heap[w7.heap.size]? = some (.cells #[.int .i64 0, .int .i64 0, .bool false, .slice none 0 0, .slice none 0 0, .int .i64 0, .int .i64 0, .int .i64 0, .string ⟨#[]⟩] 36 (0, 0))) := Lib.hid (new_alloc _ _ _ rfl)
        have HB8 : Hid (Below w7.heap.size w7 (w7.alloc (.cells #[.int .i64 0, .int .i64 0, .bool false, .slice none 0 0, .slice none 0 0, .int .i64 0, .int .i64 0, .int .i64 0, .string ⟨#[]⟩] 36 (0, 0)))) := Lib.hid ((Below.refl _ _).alloc (Nat.le_refl _) _)
        go_upto_if 45 with (fail)
        generalize w7.alloc (.cells #[.int .i64 0, .int .i64 0, .bool false, .slice none 0 0, .slice none 0 0, .int .i64 0, .int .i64 0, .int .i64 0, .string ⟨#[]⟩] 36 (0, 0)) = w8 at HZ8 HB8 ⊢
        obtain ⟨b9, hb9⟩ : ∃ b, w7.heap.size = b := ⟨_, rfl⟩
        rw [hb9] at HZ8 ⊢
        have HB9 := Lib.hid hb9
        clear hb9
        go_cut [8] from 46 to 51 (fun s8 wx => ∃ u9 x9, s8 = .int .i64 (codeB may) ∧ Hid (wx.heap[b9]? = some (.cells #[.int .i64 pw.rows, .int .i64 pw.cols, .bool pw.all, u9, x9, .int .i64 pw.row, .int .i64 pw.col, .int .i64 pw.modes, .string ⟨pw.title.toArray⟩] 36 (0, 0)) ∧ Src wx u9 pw.at_.length (ints pw.at_) ∧ Cs wx x9 pw.cells ∧ Below w7.heap.size w7 wx))
        case first =>
          cases may with
          | false =>
            have hpn : pw = noP := by rw [← HPW.out]; exact wholeD_no HMAY.out
            subst hpn
            go_wp2_with fail
            go_meet
            exact ⟨nilS, nilS, rfl, Lib.hid ⟨HZ8.out, (OwnN.nil _ 0).sl.src, (show OwnCs w8 0 nilS [] from World.ownsRow_nil _ _ _ _).cs, HB8.out⟩⟩
          | true =>
            have hpn : pw = whole v := by rw [← HPW.out]; exact wholeD_yes HMAY.out
            subst hpn
            have HC8 := Lib.hid (HC5.out.trans ((HB6.out.trans (HB8.out.mono HB6.out.size)).mono HC5.out.size))
            have HK8 := Lib.hid (Blk.kept (Blk.kept HK5.out HB6.out) HB8.out)
            have a0 : w8.cell? ⟨w.heap.size, 0, none⟩ = some (.slice (some ad) n c) := Blk.cell HK8.out 0
            go_wp2_with (refine wp_loadAt aggView (A := #[.int .i64 v.g.rows, .int .i64 v.g.cols, xe, .int .i64 v.row, .int .i64 v.col, .int .i64 v.modes, .string ⟨v.title.toArray⟩]) rfl rfl rfl (HE.out.kept HC8.out).at_ rfl ?_)
            refine (refWhole_any v xe _ (HE.out.kept HC8.out).rm.cs (by have := HF.out.c; omega)).mono ?_; rintro e wn ⟨yn, rfl, hy, hb⟩
            obtain ⟨An, nn, cn, rfl⟩ : ∃ A n c, yn = .slice A n c := (by obtain ⟨A, c, e⟩ := own_shape hy; exact ⟨A, _, c, e⟩)
            have HZn := Lib.hid (Blk.kept HZ8.out hb)
            have HYn := Lib.hid hy
            have HBn := Lib.hid (HB8.out.trans (hb.mono HB8.out.size))
            have HLn : Hid (b9 < w8.heap.size) := Lib.hid (Blk.lt HZ8.out)
            clear hy hb a0
            go_wp2_with (refine wp_storeP (T := fun w' => w'.heap[b9]? = some (.cells #[.int .i64 (whole v).rows, .int .i64 (whole v).cols, .bool (whole v).all, nilS, .slice An nn cn, .int .i64 (whole v).row, .int .i64 (whole v).col, .int .i64 (whole v).modes, .string ⟨(whole v).title.toArray⟩] 36 (0, 0)) ∧ OwnCs w' w8.heap.size (.slice An nn cn) v.g.cells ∧ Below w7.heap.size w7 w') rfl rfl rfl rfl rfl HZn.out (fun w' h => ⟨h.box, h.row HYn.out HLn.out, h.below _ _ (by have := HB9.out; omega) HBn.out⟩) ?_; intro wF HFn)
            go_meet
            exact ⟨nilS, .slice An nn cn, rfl, Lib.hid ⟨HFn.out.1, (OwnN.nil _ 0).sl.src, HFn.out.2.1.cs, HFn.out.2.2⟩⟩
        case rest =>
          obtain ⟨u9, x9, rfl, HX9⟩ := hcut
          obtain ⟨hx1, hx2, hx3, hx4⟩ := HX9.out
          have HBX := Lib.hid (HB6.out.trans (hx4.mono HB6.out.size))
          have HVX := Lib.hid (Blk.kept (Blk.kept HV5.out HB6.out) hx4)
          have HWX := Lib.hid (Blk.kept HW6.out hx4)
          have HCX := Lib.hid (HC5.out.trans (HBX.out.mono HC5.out.size))
          have HOX := Lib.hid (OwnCs.kept HO5.out HBX.out)
          have HUX := Lib.hid (HU6.out.kept hx4)
          have HYX := Lib.hid (OwnCs.kept HY6.out hx4)
          have HZX := HX9
          clear hx1 hx2 hx3 hx4 HX9 HZ8 HB8 HB9
          obtain ⟨w9, rfl⟩ : ∃ W, W = wc := ⟨_, rfl⟩
          go_upto_region 13 with (fail)
          go_cut [69] from 52 to 69 (fun s69 wx => s69 = .bool false ∧ Hid (Below w9.heap.size w9 wx))
          case first =>
            go_wp2_with (refine wp_loadV rfl rfl rfl HVX.out ?_)
            refine (check_any v (.slice A4 n4 c4) _ HOX.out.rm HF.out.h (HT.out.kept HCX.out) (by have := HF.out.t; omega)).mono ?_; rintro e w10 ⟨rfl, hb⟩
            have HB10 := Lib.hid hb
            have HW10 := Lib.hid (Blk.kept HWX.out hb)
            have HZ10 := Lib.hid (Blk.kept HZX.out.1 hb)
            have HEQ := Lib.hid (fun W (hw : Below w10.heap.size w10 W) => eqPatch_same pw (.slice Bu mu ku) (.slice Bv mv kv) u9 x9 W ((HUX.out.kept hb).kept hw).sl.src ((HZX.out.2.1.kept hb).kept hw) (OwnCs.kept (OwnCs.kept HYX.out hb) hw).cs ((HZX.out.2.2.1.kept hb).kept hw) (by have := HPS.out.1; omega) (by have := HPS.out.2; omega))
            rw [HMAY.out]
            clear hb
            cases may
            all_goals
              simp only [codeB, Bool.false_eq_true, if_false, if_true]
              go_wp2_with fail
              refine (num16 _ _).mono ?_; rintro e w' ⟨rfl, rfl⟩
              go_wp2_with fail
              refine (num16 _ _).mono ?_; rintro e w' ⟨rfl, rfl⟩
              go_wp2_with (first
                | (refine wp_loadP rfl rfl rfl HW10.out ?_)
                | (refine wp_loadP rfl rfl rfl HZ10.out ?_))
              refine (HEQ.out _ (Below.refl _ _)).mono ?_; rintro e w11 ⟨rfl, hb⟩
              have HB11 := Lib.hid (HB10.out.trans (hb.mono HB10.out.size))
              clear hb
              go_wp2_with fail
              go_meet
              exact ⟨rfl, HB11⟩
          case rest =>
            obtain ⟨rfl, HB11⟩ := hcut
            obtain ⟨w11, rfl⟩ : ∃ W, W = wc := ⟨_, rfl⟩
            have HW11 := Lib.hid (Blk.kept HWX.out HB11.out)
            have HU11 := Lib.hid (HUX.out.kept HB11.out)
            have HY11 := Lib.hid (OwnCs.kept HYX.out HB11.out)
            have HBA := Lib.hid (HBX.out.trans (HB11.out.mono HBX.out.size))
            clear HVX HWX HCX HOX HUX HYX HZX HBX HB11 HB6 HU6 HY6 HW6
            go_wp2_with (refine wp_loadP rfl rfl rfl HW11.out ?_)
            refine (patch_over_t pw.rows pw.cols pw.row pw.col pw.modes pw.all ⟨pw.title.toArray⟩ pw.at_ pw.cells (.slice Bu mu ku) (.slice Bv mv kv) w5.heap.size w11 HU11.out HY11.out HBA.out.size (by have := HPS.out.2; omega) (by have := HPS.out.1; omega)).mono ?_; rintro e w12 ⟨rfl, hb, _⟩
            have HB12 := Lib.hid (HBA.out.trans hb)
            clear hb HW11 HU11 HY11 HBA HPS HPW
            go_wp2_with fail
            go_loopw [10] (fun s10 wr => ∃ k : Nat, k ≤ n ∧ s10 = .int .i64 k ∧ Hid (Below w5.heap.size w5 wr)) (fun s10 _ => n - (intOf s10).toNat)
            case atStart => exact ⟨0, by omega, rfl, HB12⟩
            case round =>
              obtain ⟨k, hk, rfl, HBK⟩ := hrel
              have HBQ := Lib.hid (HC5.out.trans (HBK.out.mono HC5.out.size))
              have HKQ := Lib.hid (Blk.kept HK5.out HBK.out)
              have b0 : wr.cell? ⟨w.heap.size, 0, none⟩ = some (.slice (some ad) n c) := Blk.cell HKQ.out 0
              by_cases hlk : k < n
              · obtain ⟨ad', hade, he, hf⟩ := HEL.out k hlk
                obtain rfl : ad = ad' := by injection hade
                by_cases h5k : k < 5
                · have d5 : decide ((k : Int) < 5) = true := decide_eq_true (by omega)
                  obtain ⟨v2, hv⟩ : ∃ v, (V.getD k noVe).v = v := ⟨_, rfl⟩
                  obtain ⟨xk, hxe⟩ : ∃ x, (V.getD k noVe).x = x := ⟨_, rfl⟩
                  rw [hv, hxe] at he
                  rw [hv] at hf
                  clear hv hxe hade
                  have HE2 := Lib.hid he
                  have HF2 := Lib.hid hf
                  clear he hf
                  go_wp2_with (refine wp_loadAt aggView (A := #[.int .i64 v2.g.rows, .int .i64 v2.g.cols, xk, .int .i64 v2.row, .int .i64 v2.col, .int .i64 v2.modes, .string ⟨v2.title.toArray⟩]) rfl rfl rfl (HE2.out.kept HBQ.out).at_ rfl ?_)
                  refine (copyView_any v2 xk _ (HE2.out.kept HBQ.out).rm.cs (by have := HF2.out.c; omega)).mono ?_; rintro e w20 ⟨y11, rfl, ho, hb⟩
                  obtain ⟨Ab, nb, cb, rfl⟩ : ∃ A n c, y11 = .slice A n c := (by obtain ⟨A, c, e⟩ := own_shape ho; exact ⟨A, _, c, e⟩)
                  have HB21 : Hid (Below w5.heap.size w5 (w20.alloc (.cells #[.int .i64 v2.g.rows, .int .i64 v2.g.cols, .slice Ab nb cb, .int .i64 v2.row, .int .i64 v2.col, .int .i64 v2.modes, .string ⟨v2.title.toArray⟩] 31 (0, 0)))) := Lib.hid ((HBK.out.trans (hb.mono HBK.out.size)).alloc (HBK.out.trans (hb.mono HBK.out.size)).size _)
                  have HO21 : Hid (OwnCs (w20.alloc (.cells #[.int .i64 v2.g.rows, .int .i64 v2.g.cols, .slice Ab nb cb, .int .i64 v2.row, .int .i64 v2.col, .int .i64 v2.modes, .string ⟨v2.title.toArray⟩] 31 (0, 0))) wr.heap.size (.slice Ab nb cb) v2.g.cells) := Lib.hid (OwnCs.kept ho ((Below.refl _ _).alloc (Nat.le_refl _) _))
                  have HV21 : Hid ((w20.alloc (.cells #[.int .i64 v2.g.rows, .int .i64 v2.g.cols, .slice Ab nb cb, .int .i64 v2.row, .int .i64 v2.col, .int .i64 v2.modes, .string ⟨v2.title.toArray⟩] 31 (0, 0))).heap[w20.heap.size]? = some (.cells #[.int .i64 v2.g.rows, .int .i64 v2.g.cols, .slice Ab nb cb, .int .i64 v2.row, .int .i64 v2.col, .int .i64 v2.modes, .string ⟨v2.title.toArray⟩] 31 (0, 0))) := Lib.hid (new_alloc _ _ _ rfl)
                  clear ho hb b0 d5
                  go_upto_region 20 with (fail)
                  generalize w20.alloc (.cells #[.int .i64 v2.g.rows, .int .i64 v2.g.cols, .slice Ab nb cb, .int .i64 v2.row, .int .i64 v2.col, .int .i64 v2.modes, .string ⟨v2.title.toArray⟩] 31 (0, 0)) = w21 at HB21 HO21 HV21 ⊢
                  generalize w20.heap.size = b11 at HV21 ⊢
                  have HC21 := Lib.hid (HC5.out.trans (HB21.out.mono HC5.out.size))
                  have HV4q := Lib.hid (Blk.kept HV5.out HB21.out)
                  have HO4q := Lib.hid (OwnCs.kept HO5.out HB21.out)
                  have HK21 := Lib.hid (Blk.kept HK5.out HB21.out)
                  go_wp2_with (first
                    | (refine wp_loadV rfl rfl rfl HV4q.out ?_)
                    | (refine wp_loadV rfl rfl rfl HV21.out ?_))
                  refine (between_any v v2 (.slice A4 n4 c4) (.slice Ab nb cb) _ HO4q.out.rm HO21.out.rm HF.out.h HF2.out.h (HT.out.kept HC21.out) (by have := HF.out.t; omega) (by have := HF2.out.t; omega)).mono ?_; rintro e w22 ⟨ub, xb, rfl, hu, hy, hb⟩
                  obtain ⟨may2, hmay2⟩ : ∃ b, viewB v2 = b := ⟨_, rfl⟩
                  have hps := betD_small v v2
                  obtain ⟨pb, hpb⟩ : ∃ p, betD v v2 = p := ⟨_, rfl⟩
                  rw [hpb] at hu hy hps ⊢
                  obtain ⟨mb, hmb⟩ : ∃ b, (may && may2) = b := ⟨_, rfl⟩
                  rw [HMAY.out, hmay2, hmb]
                  have HMB := Lib.hid hmb
                  clear hmb
                  obtain ⟨Cu, mu2, ku2, rfl⟩ : ∃ A n c, ub = .slice A n c := (by obtain ⟨A, c, e⟩ := own_shape hu; exact ⟨A, _, c, e⟩)
                  obtain ⟨Cv, mv2, kv2, rfl⟩ : ∃ A n c, xb = .slice A n c := (by obtain ⟨A, c, e⟩ := own_shape hy; exact ⟨A, _, c, e⟩)
                  have hk := (Below.refl w22.heap.size w22).alloc (Nat.le_refl _) (.cells #[.int .i64 pb.rows, .int .i64 pb.cols, .bool pb.all, .slice Cu mu2 ku2, .slice Cv mv2 kv2, .int .i64 pb.row, .int .i64 pb.col, .int .i64 pb.modes, .string ⟨pb.title.toArray⟩] 36 (0, 0))
                  have HB23 := Lib.hid (hb.trans (hk.mono hb.size))
                  have HU23 := Lib.hid (OwnN.kept hu hk)
                  have HY23 := Lib.hid (OwnCs.kept hy hk)
                  have HX23 : Hid ((w22.alloc (.cells #[.int .i64 pb.rows, .int .i64 pb.cols, .bool pb.all, .slice Cu mu2 ku2, .slice Cv mv2 kv2, .int .i64 pb.row, .int .i64 pb.col, .int .i64 pb.modes, .string ⟨pb.title.toArray⟩] 36 (0, 0))).heap[w22.heap.size]? = some (.cells #[.int .i64 pb.rows, .int .i64 pb.cols, .bool pb.all, .slice Cu mu2 ku2, .slice Cv mv2 kv2, .int .i64 pb.row, .int .i64 pb.col, .int .i64 pb.modes, .string ⟨pb.title.toArray⟩] 36 (0, 0))) := Lib.hid (new_alloc _ _ _ rfl)
                  have HPS2 := Lib.hid hps
                  have HM2 := Lib.hid hmay2
                  have HPB := Lib.hid hpb
                  clear hu hy hb hk hps hmay2 hpb HV4q HO4q
                  go_upto_region 21 with (fail)
                  generalize w22.alloc (.cells #[.int .i64 pb.rows, .int .i64 pb.cols, .bool pb.all, .slice Cu mu2 ku2, .slice Cv mv2 kv2, .int .i64 pb.row, .int .i64 pb.col, .int .i64 pb.modes, .string ⟨pb.title.toArray⟩] 36 (0, 0)) = w23 at HB23 HU23 HY23 HX23 ⊢
                  generalize w22.heap.size = b12 at HX23 ⊢
                  have HZ24 : Hid ((w23.alloc (.cells #[.int .i64 0, .int .i64 0, .bool false, .slice none 0 0, .slice none 0 0, .int .i64 0, .int .i64 0, .int .i64 0, .string ⟨#[]⟩] 36 (0, 0))).heap[w23.heap.size]? = some (.cells #[.int .i64 0, .int .i64 0, .bool false, .slice none 0 0, .slice none 0 0, .int .i64 0, .int .i64 0, .int .i64 0, .string ⟨#[]⟩] 36 (0, 0))) := Lib.hid (new_alloc _ _ _ rfl)
                  have HB24 : Hid (Below w23.heap.size w23 (w23.alloc (.cells #[.int .i64 0, .int .i64 0, .bool false, .slice none 0 0, .slice none 0 0, .int .i64 0, .int .i64 0, .int .i64 0, .string ⟨#[]⟩] 36 (0, 0)))) := Lib.hid ((Below.refl _ _).alloc (Nat.le_refl _) _)
                  go_upto_region 23 with (fail)
                  generalize w23.alloc (.cells #[.int .i64 0, .int .i64 0, .bool false, .slice none 0 0, .slice none 0 0, .int .i64 0, .int .i64 0, .int .i64 0, .string ⟨#[]⟩] 36 (0, 0)) = w24 at HZ24 HB24 ⊢
                  obtain ⟨b14, hb14⟩ : ∃ b, w23.heap.size = b := ⟨_, rfl⟩
                  rw [hb14] at HZ24 ⊢
                  have HB14 := Lib.hid hb14
                  clear hb14
                  have HC24 := Lib.hid (HC21.out.trans ((HB23.out.trans (HB24.out.mono HB23.out.size)).mono HC21.out.size))
                  have HK24 := Lib.hid (Blk.kept (Blk.kept HK21.out HB23.out) HB24.out)
                  go_cut [103] from 95 to 103 (fun s103 wx => s103 = .bool mb ∧ Hid (Below w24.heap.size w24 wx))
                  case first =>
                    cases may with
                    | false =>
                      obtain rfl : mb = false := HMB.out.symm
                      go_wp2_with fail
                      go_meet
                      exact ⟨rfl, Lib.hid (Below.refl _ _)⟩
                    | true =>
                      obtain rfl : mb = may2 := by have h := HMB.out; rw [Bool.true_and] at h; exact h.symm
                      have a0 : w24.cell? ⟨w.heap.size, 0, none⟩ = some (.slice (some ad) n c) := Blk.cell HK24.out 0
                      go_wp2_with (refine wp_loadAt aggView (A := #[.int .i64 v2.g.rows, .int .i64 v2.g.cols, xk, .int .i64 v2.row, .int .i64 v2.col, .int .i64 v2.modes, .string ⟨v2.title.toArray⟩]) rfl rfl rfl (HE2.out.kept HC24.out).at_ rfl ?_)
                      refine (refView_any v2 xk _ (HE2.out.kept HC24.out).rm HF2.out.s (HT.out.kept HC24.out) (by have := HF2.out.c; omega) (by have := HF2.out.t; omega)).mono ?_; rintro e w25 ⟨rfl, hb⟩
                      rw [HM2.out]
                      have HBM := Lib.hid hb
                      clear hb
                      go_wp2_with fail
                      go_meet
                      exact ⟨rfl, HBM⟩
                  case rest =>
                    obtain ⟨rfl, HBM⟩ := hcut
                    obtain ⟨w25, rfl⟩ : ∃ W, W = wc := ⟨_, rfl⟩
                    have HZ25 := Lib.hid (Blk.kept HZ24.out HBM.out)
                    have HB25 := Lib.hid (HB24.out.trans (HBM.out.mono HB24.out.size))
                    have HC25 := Lib.hid (HC24.out.trans (HBM.out.mono HC24.out.size))
                    have HK25 := Lib.hid (Blk.kept HK24.out HBM.out)
                    have HD25 := Lib.hid (HB21.out.trans ((HB23.out.trans (HB25.out.mono HB23.out.size)).mono HB21.out.size))
                    clear HZ24 HB24 HC24 HK24 HBM
                    go_upto_if 103 with (fail)
                    go_cut [8] from 104 to 114 (fun s8 wx => ∃ u14 x14, s8 = .int .i64 (codeB mb) ∧ Hid (wx.heap[b14]? = some (.cells #[.int .i64 pb.rows, .int .i64 pb.cols, .bool pb.all, u14, x14, .int .i64 pb.row, .int .i64 pb.col, .int .i64 pb.modes, .string ⟨pb.title.toArray⟩] 36 (0, 0)) ∧ Src wx u14 pb.at_.length (ints pb.at_) ∧ Cs wx x14 pb.cells ∧ Below w23.heap.size w23 wx))
                    case first =>
                      cases mb with
                      | false =>
                        have hmm := HMB.out
                        have hpn : pb = noP := by rw [← HPB.out]; exact betD_no (by rw [HMAY.out, HM2.out]; exact hmm)
                        subst hpn
                        go_wp2_with fail
                        go_meet
                        exact ⟨nilS, nilS, rfl, Lib.hid ⟨HZ25.out, (OwnN.nil _ 0).sl.src, (show OwnCs w25 0 nilS [] from World.ownsRow_nil _ _ _ _).cs, HB25.out⟩⟩
                      | true =>
                        have hmm := HMB.out
                        have hpn : pb = between v v2 := by rw [← HPB.out]; exact betD_yes (by rw [HMAY.out, HM2.out]; exact hmm)
                        subst hpn
                        have hmm0 := hmm
                        rw [Bool.and_eq_true] at hmm0
                        have HRB := Lib.hid (fun W (hw : Below w.heap.size w W) => refBetween_any v v2 xe xk W (HE.out.kept hw).rm (HE2.out.kept hw).rm (HMAY.out.trans hmm0.1) (HM2.out.trans hmm0.2))
                        clear hmm hmm0
                        have HLT : Hid (b14 < w25.heap.size) := Lib.hid (Blk.lt HZ25.out)
                        have q0 : w25.drew.cell? ⟨w.heap.size, 0, none⟩ = some (.slice (some ad) n c) ∧ Hid (Below w5.heap.size w5 w25.drew) := ⟨Blk.cell HK25.out 0, Lib.hid HD25.out.drew⟩
                        have HZd : Hid (w25.drew.heap[b14]? = some (.cells #[.int .i64 0, .int .i64 0, .bool false, .slice none 0 0, .slice none 0 0, .int .i64 0, .int .i64 0, .int .i64 0, .string ⟨#[]⟩] 36 (0, 0))) := Lib.hid HZ25.out
                        have HBd := Lib.hid HB25.out.drew
                        have HCd := Lib.hid HC25.out.drew
                        have HLd : Hid (b14 < w25.drew.heap.size) := Lib.hid HLT.out
                        go_wp2_with fail
                        refine wp_region_held_drew (S := fun w' => w'.cell? ⟨w.heap.size, 0, none⟩ = some (.slice (some ad) n c) ∧ Hid (Below w5.heap.size w5 w')) (by kernel_rfl) q0 (fun hHeld => ?_)
                        generalize w25.drew = wd at HZd HBd HCd HLd q0 hHeld ⊢
                        refine wpAnyH_take (i := 0) (v := ?_) rfl (by kernel_rfl) (by kernel_rfl) (by kernel_rfl) (fun _ _ _ h => h) (Or.inl ⟨by rfl, ?_⟩) (by assumption) ?_
                        rotate_left
                        · intro w' hSw; first | (go_simp; done) | (go_simp; with_reducible rfl)
                        simp only [Act.put, List.getElem_toArray, List.getElem_cons_zero, List.setIfInBounds_toArray, List.set_cons_zero, List.set_cons_succ]
                        refine wpAnyH_take (i := 1) (v := ?_) rfl (by kernel_rfl) (by kernel_rfl) (by kernel_rfl) (fun _ _ _ h => h) (Or.inl ⟨by rfl, ?_⟩) (by assumption) ?_
                        rotate_left
                        · intro w' hSw; first | (go_simp; done) | (go_simp; with_reducible rfl)
                        simp only [Act.put, List.getElem_toArray, List.getElem_cons_zero, List.getElem_cons_succ, List.setIfInBounds_toArray, List.set_cons_zero, List.set_cons_succ]
                        refine wpAnyH_take (i := 2) (v := ?_) rfl (by kernel_rfl) (by kernel_rfl) (by kernel_rfl) (fun _ _ _ h => h) (Or.inl ⟨by rfl, ?_⟩) (by assumption) ?_
                        rotate_left
                        · intro w' hSw; first | (go_simp; done) | (go_simp; with_reducible rfl)
                        simp only [Act.put, List.getElem_toArray, List.getElem_cons_zero, List.getElem_cons_succ, List.setIfInBounds_toArray, List.set_cons_zero, List.set_cons_succ]
                        refine wpAnyH_take (i := 3) (v := ?_) rfl (by kernel_rfl) (by kernel_rfl) (by kernel_rfl) (fun _ _ _ h => h) (Or.inl ⟨by rfl, ?_⟩) (by assumption) ?_
                        rotate_left
                        · intro w' hSw; first | (go_simp; done) | (go_simp; with_reducible rfl)
                        simp only [Act.put, List.getElem_toArray, List.getElem_cons_zero, List.getElem_cons_succ, List.setIfInBounds_toArray, List.set_cons_zero, List.set_cons_succ]
                        refine wpAnyH_take (i := 4) (v := .agg #[.int .i64 v.g.rows, .int .i64 v.g.cols, xe, .int .i64 v.row, .int .i64 v.col, .int .i64 v.modes, .string ⟨v.title.toArray⟩]) rfl (by kernel_rfl) (by kernel_rfl) (by kernel_rfl) (fun _ _ _ h => h) (yields_loadAt aggView (A := #[.int .i64 v.g.rows, .int .i64 v.g.cols, xe, .int .i64 v.row, .int .i64 v.col, .int .i64 v.modes, .string ⟨v.title.toArray⟩]) rfl rfl rfl (fun w' hS => (HE.out.kept (HC5.out.trans (hS.2.out.mono HC5.out.size))).at_) rfl) (by assumption) ?_
                        simp only [Act.put, List.getElem_toArray, List.getElem_cons_zero, List.getElem_cons_succ, List.setIfInBounds_toArray, List.set_cons_zero, List.set_cons_succ]
                        refine wpAnyH_take (i := 5) (v := ?_) rfl (by kernel_rfl) (by kernel_rfl) (by kernel_rfl) (fun _ _ _ h => h) (Or.inl ⟨by rfl, ?_⟩) (by assumption) ?_
                        rotate_left
                        · intro w' hSw; first | (go_simp; done) | (go_simp; with_reducible rfl)
                        simp only [Act.put, List.getElem_toArray, List.getElem_cons_zero, List.getElem_cons_succ, List.setIfInBounds_toArray, List.set_cons_zero, List.set_cons_succ]
                        refine wpAnyH_take (i := 6) (v := ?_) rfl (by kernel_rfl) (by kernel_rfl) (by kernel_rfl) (fun _ _ _ h => h) (Or.inl ⟨by rfl, ?_⟩) (by assumption) ?_
                        rotate_left
                        · intro w' hSw; first | (go_simp; done) | (go_simp; with_reducible rfl)
                        simp only [Act.put, List.getElem_toArray, List.getElem_cons_zero, List.getElem_cons_succ, List.setIfInBounds_toArray, List.set_cons_zero, List.set_cons_succ]
                        refine wpAnyH_take (i := 7) (v := ?_) rfl (by kernel_rfl) (by kernel_rfl) (by kernel_rfl) (fun _ _ _ h => h) (Or.inl ⟨by rfl, ?_⟩) (by assumption) ?_
                        rotate_left
                        · intro w' hSw; first | (go_simp; done) | (go_simp; with_reducible rfl)
                        simp only [Act.put, List.getElem_toArray, List.getElem_cons_zero, List.getElem_cons_succ, List.setIfInBounds_toArray, List.set_cons_zero, List.set_cons_succ]
                        refine wpAnyH_take (i := 8) (v := ?_) rfl (by kernel_rfl) (by kernel_rfl) (by kernel_rfl) (fun _ _ _ h => h) (Or.inl ⟨by rfl, ?_⟩) (by assumption) ?_
                        rotate_left
                        · intro w' hSw; first | (go_simp; done) | (go_simp; with_reducible rfl)
                        simp only [Act.put, List.getElem_toArray, List.getElem_cons_zero, List.getElem_cons_succ, List.setIfInBounds_toArray, List.set_cons_zero, List.set_cons_succ]
                        refine wpAnyH_take (i := 9) (v := .agg #[.int .i64 v2.g.rows, .int .i64 v2.g.cols, xk, .int .i64 v2.row, .int .i64 v2.col, .int .i64 v2.modes, .string ⟨v2.title.toArray⟩]) rfl (by kernel_rfl) (by kernel_rfl) (by kernel_rfl) (fun _ _ _ h => h) (yields_loadAt aggView (A := #[.int .i64 v2.g.rows, .int .i64 v2.g.cols, xk, .int .i64 v2.row, .int .i64 v2.col, .int .i64 v2.modes, .string ⟨v2.title.toArray⟩]) rfl rfl rfl (fun w' hS => (HE2.out.kept (HC5.out.trans (hS.2.out.mono HC5.out.size))).at_) rfl) (by assumption) ?_
                        simp only [Act.put, List.getElem_toArray, List.getElem_cons_zero, List.getElem_cons_succ, List.setIfInBounds_toArray, List.set_cons_zero, List.set_cons_succ]
                        refine wpAnyH_ready (rs := [10]) (by kernel_rfl) (by simp) ?_
                        refine AllReadyH.cons rfl (fun K hK => ?_) ?_
                        · go_simp
                          go_at_call 15
                          refine (HRB.out _ HCd.out).mono ?_; rintro e wn ⟨un, yn, rfl, hu, hy, hb⟩
                          obtain ⟨An, nn, cn, rfl⟩ : ∃ A n c, yn = .slice A n c := (by obtain ⟨A, c, e⟩ := own_shape hy; exact ⟨A, _, c, e⟩)
                          obtain ⟨Au, nu, cu, rfl⟩ : ∃ A n c, un = .slice A n c := (by obtain ⟨A, c, e⟩ := own_shape hu; exact ⟨A, _, c, e⟩)
                          have HZn := Lib.hid (Blk.kept HZd.out hb)
                          have HUn := Lib.hid hu
                          have HYn := Lib.hid hy
                          have HBn := Lib.hid (HBd.out.trans (hb.mono HBd.out.size))
                          have qn : wn.cell? ⟨w.heap.size, 0, none⟩ = some (.slice (some ad) n c) ∧ Hid (Below w5.heap.size w5 wn) := ⟨cell_kept hb hHeld.1, Lib.hid (hHeld.2.out.trans (hb.mono hHeld.2.out.size))⟩
                          have HKn := Lib.hid qn.2.out
                          clear hu hy hb
                          refine hK.out _ _ qn (fun hHeld => ?_)
                          clear hK K
                          refine wpAnyH_take (i := 11) (v := ?_) rfl (by kernel_rfl) (by kernel_rfl) (by kernel_rfl) (fun _ _ _ h => h) (Or.inl ⟨by rfl, ?_⟩) (by assumption) ?_
                          rotate_left
                          · intro w' hSw; first | (go_simp; done) | (go_simp; with_reducible rfl)
                          simp only [Act.put, List.getElem_toArray, List.getElem_cons_zero, List.getElem_cons_succ, List.setIfInBounds_toArray, List.set_cons_zero, List.set_cons_succ]
                          refine wpAnyH_ready (rs := [12]) (by kernel_rfl) (by simp) ?_
                          refine AllReadyH.cons rfl (fun K hK => ?_) ?_
                          · refine step_storeA aggPatch (b := b14) (A := #[.int .i64 (between v v2).rows, .int .i64 (between v v2).cols, .bool (between v v2).all, .slice Au nu cu, .slice An nn cn, .int .i64 (between v v2).row, .int .i64 (between v v2).col, .int .i64 (between v v2).modes, .string ⟨(between v v2).title.toArray⟩]) rfl rfl rfl rfl rfl rfl HZn.out rfl fun wF HSt => ?_
                            have HF1 : Hid (wF.heap[b14]? = some (.cells #[.int .i64 (between v v2).rows, .int .i64 (between v v2).cols, .bool (between v v2).all, .slice Au nu cu, .slice An nn cn, .int .i64 (between v v2).row, .int .i64 (between v v2).col, .int .i64 (between v v2).modes, .string ⟨(between v v2).title.toArray⟩] 36 (0, 0))) := Lib.hid HSt.box
                            have HF2' : Hid (OwnN wF wd.heap.size (.slice Au nu cu) (between v v2).at_) := Lib.hid (HSt.row HUn.out HLd.out)
                            have HF3 : Hid (OwnCs wF wd.heap.size (.slice An nn cn) (between v v2).cells) := Lib.hid (HSt.row HYn.out HLd.out)
                            have HF4 : Hid (Below w23.heap.size w23 wF) := Lib.hid (HSt.below _ _ (by have := HB14.out; omega) HBn.out)
                            have qF : wF.cell? ⟨w.heap.size, 0, none⟩ = some (.slice (some ad) n c) ∧ Hid (Below w5.heap.size w5 wF) := ⟨Blk.cell (Blk.kept (Blk.kept (Blk.kept HK5.out HB21.out) HB23.out) HF4.out) 0, Lib.hid (HSt.below _ _ (by have h1 := HB14.out; have h2 := HB21.out.size; have h3 := HB23.out.size; omega) HKn.out)⟩
                            clear HSt
                            refine hK.out _ _ qF (fun hHeld => ?_)
                            clear hK K
                            refine wpAnyH_done (by kernel_rfl) ?_ _
                            go_wp2_with fail
                            go_meet
                            exact ⟨_, _, rfl, Lib.hid ⟨HF1.out, HF2'.out.sl.src, HF3.out.cs, HF4.out⟩⟩
                          exact AllReadyH.nil
                        exact AllReadyH.nil
                    case rest =>
                      obtain ⟨u14, x14, rfl, HX14⟩ := hcut
                      obtain ⟨w26, rfl⟩ : ∃ W, W = wc := ⟨_, rfl⟩
                      have HB26 := Lib.hid (HB23.out.trans (HX14.out.2.2.2.mono HB23.out.size))
                      have HD26 := Lib.hid (HB21.out.trans (HB26.out.mono HB21.out.size))
                      have HX26 := Lib.hid (Blk.kept HX23.out HX14.out.2.2.2)
                      have HU26 := Lib.hid (HU23.out.kept HX14.out.2.2.2)
                      have HY26 := Lib.hid (OwnCs.kept HY23.out HX14.out.2.2.2)
                      have HV26 := Lib.hid (Blk.kept HV21.out HB26.out)
                      have HO26 := Lib.hid (OwnCs.kept HO21.out HB26.out)
                      clear HZ25 HB25 HC25 HK25 HD25 HX23 HU23 HY23 HPB HM2
                      go_upto_region 25 with (fail)
                      go_cut [144] from 115 to 144 (fun s144 wx => s144 = .bool false ∧ Hid (Below w26.heap.size w26 wx))
                      case first =>
                        have q0 : w26.drew.cell? ⟨w.heap.size, 0, none⟩ = some (.slice (some ad) n c) ∧ Hid (Below w26.heap.size w26 w26.drew) := ⟨Blk.cell (Blk.kept HK5.out HD26.out) 0, Lib.hid (Below.refl _ _).drew⟩
                        refine wp_region_held_drew (S := fun w' => w'.cell? ⟨w.heap.size, 0, none⟩ = some (.slice (some ad) n c) ∧ Hid (Below w26.heap.size w26 w')) (by kernel_rfl) q0 (fun hHeld => ?_)
                        have HBd := Lib.hid q0.2.out
                        generalize w26.drew = wd at HBd q0 hHeld ⊢
                        have HCE := Lib.hid (fun W (hw : Below w26.heap.size w26 W) => HC5.out.trans ((HD26.out.trans (hw.mono HD26.out.size)).mono HC5.out.size))
                        have HVA26 := Lib.hid (Blk.kept HV5.out HD26.out)
                        have HOA26 := Lib.hid (OwnCs.kept HO5.out HD26.out)
                        refine wpAnyH_take (i := 0) (v := ?_) rfl (by kernel_rfl) (by kernel_rfl) (by kernel_rfl) (fun _ _ _ h => h) (Or.inl ⟨by rfl, ?_⟩) (by assumption) ?_
                        rotate_left
                        · intro w' hSw; first | (go_simp; done) | (go_simp; with_reducible rfl)
                        simp only [Act.put, List.getElem_toArray, List.getElem_cons_zero, List.setIfInBounds_toArray, List.set_cons_zero, List.set_cons_succ]
                        refine wpAnyH_take (i := 2) (v := ?_) rfl (by kernel_rfl) (by kernel_rfl) (by kernel_rfl) (fun _ _ _ h => h) (Or.inl ⟨by rfl, ?_⟩) (by assumption) ?_
                        rotate_left
                        · intro w' hSw; first | (go_simp; done) | (go_simp; with_reducible rfl)
                        simp only [Act.put, List.getElem_toArray, List.getElem_cons_zero, List.getElem_cons_succ, List.setIfInBounds_toArray, List.set_cons_zero, List.set_cons_succ]
                        refine wpAnyH_ready (rs := [1]) (by kernel_rfl) (by simp) ?_
                        refine AllReadyH.cons rfl (fun K hK => ?_) ?_
                        · go_simp
                          go_at_call 10
                          refine (num16 _ _).mono ?_; rintro e w' ⟨rfl, rfl⟩
                          have qn := q0
                          refine hK.out _ _ qn (fun hHeld => ?_)
                          clear hK K
                          refine wpAnyH_take (i := 3) (v := ?_) rfl (by kernel_rfl) (by kernel_rfl) (by kernel_rfl) (fun _ _ _ h => h) (Or.inl ⟨by rfl, ?_⟩) (by assumption) ?_
                          rotate_left
                          · intro w' hSw; first | (go_simp; done) | (go_simp; with_reducible rfl)
                          simp only [Act.put, List.getElem_toArray, List.getElem_cons_zero, List.getElem_cons_succ, List.setIfInBounds_toArray, List.set_cons_zero, List.set_cons_succ]
                          refine wpAnyH_take (i := 4) (v := ?_) rfl (by kernel_rfl) (by kernel_rfl) (by kernel_rfl) (fun _ _ _ h => h) (Or.inl ⟨by rfl, ?_⟩) (by assumption) ?_
                          rotate_left
                          · intro w' hSw; first | (go_simp; done) | (go_simp; with_reducible rfl)
                          simp only [Act.put, List.getElem_toArray, List.getElem_cons_zero, List.getElem_cons_succ, List.setIfInBounds_toArray, List.set_cons_zero, List.set_cons_succ]
                          refine wpAnyH_take (i := 5) (v := .agg #[.int .i64 pb.rows, .int .i64 pb.cols, .bool pb.all, .slice Cu mu2 ku2, .slice Cv mv2 kv2, .int .i64 pb.row, .int .i64 pb.col, .int .i64 pb.modes, .string ⟨pb.title.toArray⟩]) rfl (by kernel_rfl) (by kernel_rfl) (by kernel_rfl) (fun _ _ _ h => h) (yields_loadA aggPatch (A := #[.int .i64 pb.rows, .int .i64 pb.cols, .bool pb.all, .slice Cu mu2 ku2, .slice Cv mv2 kv2, .int .i64 pb.row, .int .i64 pb.col, .int .i64 pb.modes, .string ⟨pb.title.toArray⟩]) rfl rfl rfl (fun w' hS => Blk.kept HX26.out hS.2.out) rfl) (by assumption) ?_
                          simp only [Act.put, List.getElem_toArray, List.getElem_cons_zero, List.getElem_cons_succ, List.setIfInBounds_toArray, List.set_cons_zero, List.set_cons_succ]
                          refine wpAnyH_take (i := 6) (v := .agg #[.int .i64 pb.rows, .int .i64 pb.cols, .bool pb.all, u14, x14, .int .i64 pb.row, .int .i64 pb.col, .int .i64 pb.modes, .string ⟨pb.title.toArray⟩]) rfl (by kernel_rfl) (by kernel_rfl) (by kernel_rfl) (fun _ _ _ h => h) (yields_loadA aggPatch (A := #[.int .i64 pb.rows, .int .i64 pb.cols, .bool pb.all, u14, x14, .int .i64 pb.row, .int .i64 pb.col, .int .i64 pb.modes, .string ⟨pb.title.toArray⟩]) rfl rfl rfl (fun w' hS => Blk.kept HX14.out.1 hS.2.out) rfl) (by assumption) ?_
                          simp only [Act.put, List.getElem_toArray, List.getElem_cons_zero, List.getElem_cons_succ, List.setIfInBounds_toArray, List.set_cons_zero, List.set_cons_succ]
                          refine wpAnyH_ready (rs := [7]) (by kernel_rfl) (by simp) ?_
                          refine AllReadyH.cons rfl (fun K hK => ?_) ?_
                          · go_simp
                            go_at_call 12
                            refine (eqPatch_same pb (.slice Cu mu2 ku2) (.slice Cv mv2 kv2) u14 x14 _ (HU26.out.kept HBd.out).sl.src (HX14.out.2.1.kept HBd.out) (OwnCs.kept HY26.out HBd.out).cs (HX14.out.2.2.1.kept HBd.out) (by have := HPS2.out.1; omega) (by have := HPS2.out.2; omega)).mono ?_; rintro e wn7 ⟨rfl, hb⟩
                            have HBd := Lib.hid (HBd.out.trans (hb.mono HBd.out.size))
                            have q0 : wn7.cell? ⟨w.heap.size, 0, none⟩ = some (.slice (some ad) n c) ∧ Hid (Below w26.heap.size w26 wn7) := ⟨cell_kept hb q0.1, HBd⟩
                            clear hb
                            refine hK.out _ _ q0 (fun hHeld => ?_)
                            clear hK K
                            refine wpAnyH_take (i := 8) (v := ?_) rfl (by kernel_rfl) (by kernel_rfl) (by kernel_rfl) (fun _ _ _ h => h) (Or.inl ⟨by rfl, ?_⟩) (by assumption) ?_
                            rotate_left
                            · intro w' hSw; first | (go_simp; done) | (go_simp; with_reducible rfl)
                            simp only [Act.put, List.getElem_toArray, List.getElem_cons_zero, List.getElem_cons_succ, List.setIfInBounds_toArray, List.set_cons_zero, List.set_cons_succ]
                            refine wpAnyH_take (i := 9) (v := ?_) rfl (by kernel_rfl) (by kernel_rfl) (by kernel_rfl) (fun _ _ _ h => h) (Or.inl ⟨by rfl, ?_⟩) (by assumption) ?_
                            rotate_left
                            · intro w' hSw; first | (go_simp; done) | (go_simp; with_reducible rfl)
                            simp only [Act.put, List.getElem_toArray, List.getElem_cons_zero, List.getElem_cons_succ, List.setIfInBounds_toArray, List.set_cons_zero, List.set_cons_succ]
                            refine wpAnyH_take (i := 10) (v := ?_) rfl (by kernel_rfl) (by kernel_rfl) (by kernel_rfl) (fun _ _ _ h => h) (Or.inl ⟨by rfl, ?_⟩) (by assumption) ?_
                            rotate_left
                            · intro w' hSw; first | (go_simp; done) | (go_simp; with_reducible rfl)
                            simp only [Act.put, List.getElem_toArray, List.getElem_cons_zero, List.getElem_cons_succ, List.setIfInBounds_toArray, List.set_cons_zero, List.set_cons_succ]
                            refine wpAnyH_take (i := 11) (v := .agg #[.int .i64 v.g.rows, .int .i64 v.g.cols, .slice A4 n4 c4, .int .i64 v.row, .int .i64 v.col, .int .i64 v.modes, .string ⟨v.title.toArray⟩]) rfl (by kernel_rfl) (by kernel_rfl) (by kernel_rfl) (fun _ _ _ h => h) (yields_loadA aggView (A := #[.int .i64 v.g.rows, .int .i64 v.g.cols, .slice A4 n4 c4, .int .i64 v.row, .int .i64 v.col, .int .i64 v.modes, .string ⟨v.title.toArray⟩]) rfl rfl rfl (fun w' hS => Blk.kept HVA26.out hS.2.out) rfl) (by assumption) ?_
                            simp only [Act.put, List.getElem_toArray, List.getElem_cons_zero, List.getElem_cons_succ, List.setIfInBounds_toArray, List.set_cons_zero, List.set_cons_succ]
                            refine wpAnyH_take (i := 12) (v := ?_) rfl (by kernel_rfl) (by kernel_rfl) (by kernel_rfl) (fun _ _ _ h => h) (Or.inl ⟨by rfl, ?_⟩) (by assumption) ?_
                            rotate_left
                            · intro w' hSw; first | (go_simp; done) | (go_simp; with_reducible rfl)
                            simp only [Act.put, List.getElem_toArray, List.getElem_cons_zero, List.getElem_cons_succ, List.setIfInBounds_toArray, List.set_cons_zero, List.set_cons_succ]
                            refine wpAnyH_take (i := 13) (v := ?_) rfl (by kernel_rfl) (by kernel_rfl) (by kernel_rfl) (fun _ _ _ h => h) (Or.inl ⟨by rfl, ?_⟩) (by assumption) ?_
                            rotate_left
                            · intro w' hSw; first | (go_simp; done) | (go_simp; with_reducible rfl)
                            simp only [Act.put, List.getElem_toArray, List.getElem_cons_zero, List.getElem_cons_succ, List.setIfInBounds_toArray, List.set_cons_zero, List.set_cons_succ]
                            refine wpAnyH_take (i := 14) (v := ?_) rfl (by kernel_rfl) (by kernel_rfl) (by kernel_rfl) (fun _ _ _ h => h) (Or.inl ⟨by rfl, ?_⟩) (by assumption) ?_
                            rotate_left
                            · intro w' hSw; first | (go_simp; done) | (go_simp; with_reducible rfl)
                            simp only [Act.put, List.getElem_toArray, List.getElem_cons_zero, List.getElem_cons_succ, List.setIfInBounds_toArray, List.set_cons_zero, List.set_cons_succ]
                            refine wpAnyH_take (i := 15) (v := ?_) rfl (by kernel_rfl) (by kernel_rfl) (by kernel_rfl) (fun _ _ _ h => h) (Or.inl ⟨by rfl, ?_⟩) (by assumption) ?_
                            rotate_left
                            · intro w' hSw; first | (go_simp; done) | (go_simp; with_reducible rfl)
                            simp only [Act.put, List.getElem_toArray, List.getElem_cons_zero, List.getElem_cons_succ, List.setIfInBounds_toArray, List.set_cons_zero, List.set_cons_succ]
                            refine wpAnyH_take (i := 16) (v := .agg #[.int .i64 v.g.rows, .int .i64 v.g.cols, xe, .int .i64 v.row, .int .i64 v.col, .int .i64 v.modes, .string ⟨v.title.toArray⟩]) rfl (by kernel_rfl) (by kernel_rfl) (by kernel_rfl) (fun _ _ _ h => h) (yields_loadAt aggView (A := #[.int .i64 v.g.rows, .int .i64 v.g.cols, xe, .int .i64 v.row, .int .i64 v.col, .int .i64 v.modes, .string ⟨v.title.toArray⟩]) rfl rfl rfl (fun w' hS => (HE.out.kept (HCE.out _ hS.2.out)).at_) rfl) (by assumption) ?_
                            simp only [Act.put, List.getElem_toArray, List.getElem_cons_zero, List.getElem_cons_succ, List.setIfInBounds_toArray, List.set_cons_zero, List.set_cons_succ]
                            refine wpAnyH_ready (rs := [17]) (by kernel_rfl) (by simp) ?_
                            refine AllReadyH.cons rfl (fun K hK => ?_) ?_
                            · go_simp
                              go_at_call 16
                              refine (eqView_same v (.slice A4 n4 c4) xe _ (OwnCs.kept HOA26.out HBd.out).cs (HE.out.kept (HCE.out _ HBd.out)).rm.cs (by have := HF.out.c; omega)).mono ?_; rintro e wn17 ⟨rfl, hb⟩
                              have HBd := Lib.hid (HBd.out.trans (hb.mono HBd.out.size))
                              have q0 : wn17.cell? ⟨w.heap.size, 0, none⟩ = some (.slice (some ad) n c) ∧ Hid (Below w26.heap.size w26 wn17) := ⟨cell_kept hb q0.1, HBd⟩
                              clear hb
                              refine hK.out _ _ q0 (fun hHeld => ?_)
                              clear hK K
                              refine wpAnyH_take (i := 18) (v := ?_) rfl (by kernel_rfl) (by kernel_rfl) (by kernel_rfl) (fun _ _ _ h => h) (Or.inl ⟨by rfl, ?_⟩) (by assumption) ?_
                              rotate_left
                              · intro w' hSw; first | (go_simp; done) | (go_simp; with_reducible rfl)
                              simp only [Act.put, List.getElem_toArray, List.getElem_cons_zero, List.getElem_cons_succ, List.setIfInBounds_toArray, List.set_cons_zero, List.set_cons_succ]
                              refine wpAnyH_take (i := 19) (v := ?_) rfl (by kernel_rfl) (by kernel_rfl) (by kernel_rfl) (fun _ _ _ h => h) (Or.inl ⟨by rfl, ?_⟩) (by assumption) ?_
                              rotate_left
                              · intro w' hSw; first | (go_simp; done) | (go_simp; with_reducible rfl)
                              simp only [Act.put, List.getElem_toArray, List.getElem_cons_zero, List.getElem_cons_succ, List.setIfInBounds_toArray, List.set_cons_zero, List.set_cons_succ]
                              refine wpAnyH_take (i := 20) (v := ?_) rfl (by kernel_rfl) (by kernel_rfl) (by kernel_rfl) (fun _ _ _ h => h) (Or.inl ⟨by rfl, ?_⟩) (by assumption) ?_
                              rotate_left
                              · intro w' hSw; first | (go_simp; done) | (go_simp; with_reducible rfl)
                              simp only [Act.put, List.getElem_toArray, List.getElem_cons_zero, List.getElem_cons_succ, List.setIfInBounds_toArray, List.set_cons_zero, List.set_cons_succ]
                              refine wpAnyH_take (i := 21) (v := .agg #[.int .i64 v2.g.rows, .int .i64 v2.g.cols, .slice Ab nb cb, .int .i64 v2.row, .int .i64 v2.col, .int .i64 v2.modes, .string ⟨v2.title.toArray⟩]) rfl (by kernel_rfl) (by kernel_rfl) (by kernel_rfl) (fun _ _ _ h => h) (yields_loadA aggView (A := #[.int .i64 v2.g.rows, .int .i64 v2.g.cols, .slice Ab nb cb, .int .i64 v2.row, .int .i64 v2.col, .int .i64 v2.modes, .string ⟨v2.title.toArray⟩]) rfl rfl rfl (fun w' hS => Blk.kept HV26.out hS.2.out) rfl) (by assumption) ?_
                              simp only [Act.put, List.getElem_toArray, List.getElem_cons_zero, List.getElem_cons_succ, List.setIfInBounds_toArray, List.set_cons_zero, List.set_cons_succ]
                              refine wpAnyH_take (i := 22) (v := ?_) rfl (by kernel_rfl) (by kernel_rfl) (by kernel_rfl) (fun _ _ _ h => h) (Or.inl ⟨by rfl, ?_⟩) (by assumption) ?_
                              rotate_left
                              · intro w' hSw; first | (go_simp; done) | (go_simp; with_reducible rfl)
                              simp only [Act.put, List.getElem_toArray, List.getElem_cons_zero, List.getElem_cons_succ, List.setIfInBounds_toArray, List.set_cons_zero, List.set_cons_succ]
                              refine wpAnyH_take (i := 23) (v := ?_) rfl (by kernel_rfl) (by kernel_rfl) (by kernel_rfl) (fun _ _ _ h => h) (Or.inl ⟨by rfl, ?_⟩) (by assumption) ?_
                              rotate_left
                              · intro w' hSw; first | (go_simp; done) | (go_simp; with_reducible rfl)
                              simp only [Act.put, List.getElem_toArray, List.getElem_cons_zero, List.getElem_cons_succ, List.setIfInBounds_toArray, List.set_cons_zero, List.set_cons_succ]
                              refine wpAnyH_take (i := 24) (v := ?_) rfl (by kernel_rfl) (by kernel_rfl) (by kernel_rfl) (fun _ _ _ h => h) (Or.inl ⟨by rfl, ?_⟩) (by assumption) ?_
                              rotate_left
                              · intro w' hSw; first | (go_simp; done) | (go_simp; with_reducible rfl)
                              simp only [Act.put, List.getElem_toArray, List.getElem_cons_zero, List.getElem_cons_succ, List.setIfInBounds_toArray, List.set_cons_zero, List.set_cons_succ]
                              refine wpAnyH_take (i := 25) (v := ?_) rfl (by kernel_rfl) (by kernel_rfl) (by kernel_rfl) (fun _ _ _ h => h) (Or.inl ⟨by rfl, ?_⟩) (by assumption) ?_
                              rotate_left
                              · intro w' hSw; first | (go_simp; done) | (go_simp; with_reducible rfl)
                              simp only [Act.put, List.getElem_toArray, List.getElem_cons_zero, List.getElem_cons_succ, List.setIfInBounds_toArray, List.set_cons_zero, List.set_cons_succ]
                              refine wpAnyH_take (i := 26) (v := .agg #[.int .i64 v2.g.rows, .int .i64 v2.g.cols, xk, .int .i64 v2.row, .int .i64 v2.col, .int .i64 v2.modes, .string ⟨v2.title.toArray⟩]) rfl (by kernel_rfl) (by kernel_rfl) (by kernel_rfl) (fun _ _ _ h => h) (yields_loadAt aggView (A := #[.int .i64 v2.g.rows, .int .i64 v2.g.cols, xk, .int .i64 v2.row, .int .i64 v2.col, .int .i64 v2.modes, .string ⟨v2.title.toArray⟩]) rfl rfl rfl (fun w' hS => (HE2.out.kept (HCE.out _ hS.2.out)).at_) rfl) (by assumption) ?_
                              simp only [Act.put, List.getElem_toArray, List.getElem_cons_zero, List.getElem_cons_succ, List.setIfInBounds_toArray, List.set_cons_zero, List.set_cons_succ]
                              refine wpAnyH_ready (rs := [27]) (by kernel_rfl) (by simp) ?_
                              refine AllReadyH.cons rfl (fun K hK => ?_) ?_
                              · go_simp
                                go_at_call 16
                                refine (eqView_same v2 (.slice Ab nb cb) xk _ (OwnCs.kept HO26.out HBd.out).cs (HE2.out.kept (HCE.out _ HBd.out)).rm.cs (by have := HF2.out.c; omega)).mono ?_; rintro e wn27 ⟨rfl, hb⟩
                                have HBd := Lib.hid (HBd.out.trans (hb.mono HBd.out.size))
                                have q0 : wn27.cell? ⟨w.heap.size, 0, none⟩ = some (.slice (some ad) n c) ∧ Hid (Below w26.heap.size w26 wn27) := ⟨cell_kept hb q0.1, HBd⟩
                                clear hb
                                refine hK.out _ _ q0 (fun hHeld => ?_)
                                clear hK K
                                refine wpAnyH_take (i := 28) (v := ?_) rfl (by kernel_rfl) (by kernel_rfl) (by kernel_rfl) (fun _ _ _ h => h) (Or.inl ⟨by rfl, ?_⟩) (by assumption) ?_
                                rotate_left
                                · intro w' hSw; first | (go_simp; done) | (go_simp; with_reducible rfl)
                                simp only [Act.put, List.getElem_toArray, List.getElem_cons_zero, List.getElem_cons_succ, List.setIfInBounds_toArray, List.set_cons_zero, List.set_cons_succ]
                                refine wpAnyH_take (i := 29) (v := ?_) rfl (by kernel_rfl) (by kernel_rfl) (by kernel_rfl) (fun _ _ _ h => h) (Or.inl ⟨by rfl, ?_⟩) (by assumption) ?_
                                rotate_left
                                · intro w' hSw; first | (go_simp; done) | (go_simp; with_reducible rfl)
                                simp only [Act.put, List.getElem_toArray, List.getElem_cons_zero, List.getElem_cons_succ, List.setIfInBounds_toArray, List.set_cons_zero, List.set_cons_succ]
                                refine wpAnyH_done (by kernel_rfl) ?_ _
                                go_wp2_with fail
                                go_meet
                                exact ⟨rfl, HBd⟩
                              exact AllReadyH.nil
                            exact AllReadyH.nil
                          exact AllReadyH.nil
                        exact AllReadyH.nil
                      case rest =>
                        obtain ⟨rfl, HB27⟩ := hcut
                        obtain ⟨w27, rfl⟩ : ∃ W, W = wc := ⟨_, rfl⟩
                        have HX27 := Lib.hid (Blk.kept HX26.out HB27.out)
                        have HU27 := Lib.hid (HU26.out.kept HB27.out)
                        have HY27 := Lib.hid (OwnCs.kept HY26.out HB27.out)
                        have HB27a := Lib.hid (HB26.out.trans (HB27.out.mono HB26.out.size))
                        clear HX14 HB26 HD26 HX26 HU26 HY26 HV26 HO26 HB27
                        go_wp2_with (refine wp_loadP rfl rfl rfl HX27.out ?_)
                        refine (patch_over_t pb.rows pb.cols pb.row pb.col pb.modes pb.all ⟨pb.title.toArray⟩ pb.at_ pb.cells (.slice Cu mu2 ku2) (.slice Cv mv2 kv2) w21.heap.size w27 HU27.out HY27.out HB27a.out.size (by have := HPS2.out.2; omega) (by have := HPS2.out.1; omega)).mono ?_; rintro e w28 ⟨rfl, hb, _⟩
                        have HB28 := Lib.hid (HB27a.out.trans hb)
                        clear hb HX27 HU27 HY27 HB27a HPS2 HB23 HB14
                        have HV28 := Lib.hid (Blk.kept HV21.out HB28.out)
                        have HO28 := Lib.hid (OwnCs.kept HO21.out HB28.out)
                        have HD28 := Lib.hid (HB21.out.trans (HB28.out.mono HB21.out.size))
                        go_upto_region 28 with (fail)
                        go_cut [164] from 147 to 164 (fun s164 wx => s164 = .bool false ∧ Hid (Below w28.heap.size w28 wx))
                        case first =>
                          have q0 : w28.drew.cell? ⟨w.heap.size, 0, none⟩ = some (.slice (some ad) n c) ∧ Hid (Below w28.heap.size w28 w28.drew) := ⟨Blk.cell (Blk.kept HK5.out HD28.out) 0, Lib.hid (Below.refl _ _).drew⟩
                          refine wp_region_held_drew (S := fun w' => w'.cell? ⟨w.heap.size, 0, none⟩ = some (.slice (some ad) n c) ∧ Hid (Below w28.heap.size w28 w')) (by kernel_rfl) q0 (fun hHeld => ?_)
                          have HBd := Lib.hid q0.2.out
                          generalize w28.drew = wd at HBd q0 hHeld ⊢
                          have HCE := Lib.hid (fun W (hw : Below w28.heap.size w28 W) => HC5.out.trans ((HD28.out.trans (hw.mono HD28.out.size)).mono HC5.out.size))
                          have HVA26 := Lib.hid (Blk.kept HV5.out HD28.out)
                          have HOA26 := Lib.hid (OwnCs.kept HO5.out HD28.out)
                          refine wpAnyH_take (i := 0) (v := .agg #[.int .i64 v.g.rows, .int .i64 v.g.cols, .slice A4 n4 c4, .int .i64 v.row, .int .i64 v.col, .int .i64 v.modes, .string ⟨v.title.toArray⟩]) rfl (by kernel_rfl) (by kernel_rfl) (by kernel_rfl) (fun _ _ _ h => h) (yields_loadA aggView (A := #[.int .i64 v.g.rows, .int .i64 v.g.cols, .slice A4 n4 c4, .int .i64 v.row, .int .i64 v.col, .int .i64 v.modes, .string ⟨v.title.toArray⟩]) rfl rfl rfl (fun w' hS => Blk.kept HVA26.out hS.2.out) rfl) (by assumption) ?_
                          simp only [Act.put, List.getElem_toArray, List.getElem_cons_zero, List.setIfInBounds_toArray, List.set_cons_zero, List.set_cons_succ]
                          refine wpAnyH_take (i := 1) (v := ?_) rfl (by kernel_rfl) (by kernel_rfl) (by kernel_rfl) (fun _ _ _ h => h) (Or.inl ⟨by rfl, ?_⟩) (by assumption) ?_
                          rotate_left
                          · intro w' hSw; first | (go_simp; done) | (go_simp; with_reducible rfl)
                          simp only [Act.put, List.getElem_toArray, List.getElem_cons_zero, List.getElem_cons_succ, List.setIfInBounds_toArray, List.set_cons_zero, List.set_cons_succ]
                          refine wpAnyH_take (i := 2) (v := ?_) rfl (by kernel_rfl) (by kernel_rfl) (by kernel_rfl) (fun _ _ _ h => h) (Or.inl ⟨by rfl, ?_⟩) (by assumption) ?_
                          rotate_left
                          · intro w' hSw; first | (go_simp; done) | (go_simp; with_reducible rfl)
                          simp only [Act.put, List.getElem_toArray, List.getElem_cons_zero, List.getElem_cons_succ, List.setIfInBounds_toArray, List.set_cons_zero, List.set_cons_succ]
                          refine wpAnyH_take (i := 3) (v := ?_) rfl (by kernel_rfl) (by kernel_rfl) (by kernel_rfl) (fun _ _ _ h => h) (Or.inl ⟨by rfl, ?_⟩) (by assumption) ?_
                          rotate_left
                          · intro w' hSw; first | (go_simp; done) | (go_simp; with_reducible rfl)
                          simp only [Act.put, List.getElem_toArray, List.getElem_cons_zero, List.getElem_cons_succ, List.setIfInBounds_toArray, List.set_cons_zero, List.set_cons_succ]
                          refine wpAnyH_take (i := 4) (v := ?_) rfl (by kernel_rfl) (by kernel_rfl) (by kernel_rfl) (fun _ _ _ h => h) (Or.inl ⟨by rfl, ?_⟩) (by assumption) ?_
                          rotate_left
                          · intro w' hSw; first | (go_simp; done) | (go_simp; with_reducible rfl)
                          simp only [Act.put, List.getElem_toArray, List.getElem_cons_zero, List.getElem_cons_succ, List.setIfInBounds_toArray, List.set_cons_zero, List.set_cons_succ]
                          refine wpAnyH_take (i := 5) (v := .agg #[.int .i64 v.g.rows, .int .i64 v.g.cols, xe, .int .i64 v.row, .int .i64 v.col, .int .i64 v.modes, .string ⟨v.title.toArray⟩]) rfl (by kernel_rfl) (by kernel_rfl) (by kernel_rfl) (fun _ _ _ h => h) (yields_loadAt aggView (A := #[.int .i64 v.g.rows, .int .i64 v.g.cols, xe, .int .i64 v.row, .int .i64 v.col, .int .i64 v.modes, .string ⟨v.title.toArray⟩]) rfl rfl rfl (fun w' hS => (HE.out.kept (HCE.out _ hS.2.out)).at_) rfl) (by assumption) ?_
                          simp only [Act.put, List.getElem_toArray, List.getElem_cons_zero, List.getElem_cons_succ, List.setIfInBounds_toArray, List.set_cons_zero, List.set_cons_succ]
                          refine wpAnyH_ready (rs := [6]) (by kernel_rfl) (by simp) ?_
                          refine AllReadyH.cons rfl (fun K hK => ?_) ?_
                          · go_simp
                            go_at_call 16
                            refine (eqView_same v (.slice A4 n4 c4) xe _ (OwnCs.kept HOA26.out HBd.out).cs (HE.out.kept (HCE.out _ HBd.out)).rm.cs (by have := HF.out.c; omega)).mono ?_; rintro e wn6 ⟨rfl, hb⟩
                            have HBd := Lib.hid (HBd.out.trans (hb.mono HBd.out.size))
                            have q0 : wn6.cell? ⟨w.heap.size, 0, none⟩ = some (.slice (some ad) n c) ∧ Hid (Below w28.heap.size w28 wn6) := ⟨cell_kept hb q0.1, HBd⟩
                            clear hb
                            refine hK.out _ _ q0 (fun hHeld => ?_)
                            clear hK K
                            refine wpAnyH_take (i := 7) (v := ?_) rfl (by kernel_rfl) (by kernel_rfl) (by kernel_rfl) (fun _ _ _ h => h) (Or.inl ⟨by rfl, ?_⟩) (by assumption) ?_
                            rotate_left
                            · intro w' hSw; first | (go_simp; done) | (go_simp; with_reducible rfl)
                            simp only [Act.put, List.getElem_toArray, List.getElem_cons_zero, List.getElem_cons_succ, List.setIfInBounds_toArray, List.set_cons_zero, List.set_cons_succ]
                            refine wpAnyH_take (i := 8) (v := ?_) rfl (by kernel_rfl) (by kernel_rfl) (by kernel_rfl) (fun _ _ _ h => h) (Or.inl ⟨by rfl, ?_⟩) (by assumption) ?_
                            rotate_left
                            · intro w' hSw; first | (go_simp; done) | (go_simp; with_reducible rfl)
                            simp only [Act.put, List.getElem_toArray, List.getElem_cons_zero, List.getElem_cons_succ, List.setIfInBounds_toArray, List.set_cons_zero, List.set_cons_succ]
                            refine wpAnyH_take (i := 9) (v := .agg #[.int .i64 v2.g.rows, .int .i64 v2.g.cols, .slice Ab nb cb, .int .i64 v2.row, .int .i64 v2.col, .int .i64 v2.modes, .string ⟨v2.title.toArray⟩]) rfl (by kernel_rfl) (by kernel_rfl) (by kernel_rfl) (fun _ _ _ h => h) (yields_loadA aggView (A := #[.int .i64 v2.g.rows, .int .i64 v2.g.cols, .slice Ab nb cb, .int .i64 v2.row, .int .i64 v2.col, .int .i64 v2.modes, .string ⟨v2.title.toArray⟩]) rfl rfl rfl (fun w' hS => Blk.kept HV28.out hS.2.out) rfl) (by assumption) ?_
                            simp only [Act.put, List.getElem_toArray, List.getElem_cons_zero, List.getElem_cons_succ, List.setIfInBounds_toArray, List.set_cons_zero, List.set_cons_succ]
                            refine wpAnyH_take (i := 10) (v := ?_) rfl (by kernel_rfl) (by kernel_rfl) (by kernel_rfl) (fun _ _ _ h => h) (Or.inl ⟨by rfl, ?_⟩) (by assumption) ?_
                            rotate_left
                            · intro w' hSw; first | (go_simp; done) | (go_simp; with_reducible rfl)
                            simp only [Act.put, List.getElem_toArray, List.getElem_cons_zero, List.getElem_cons_succ, List.setIfInBounds_toArray, List.set_cons_zero, List.set_cons_succ]
                            refine wpAnyH_take (i := 11) (v := ?_) rfl (by kernel_rfl) (by kernel_rfl) (by kernel_rfl) (fun _ _ _ h => h) (Or.inl ⟨by rfl, ?_⟩) (by assumption) ?_
                            rotate_left
                            · intro w' hSw; first | (go_simp; done) | (go_simp; with_reducible rfl)
                            simp only [Act.put, List.getElem_toArray, List.getElem_cons_zero, List.getElem_cons_succ, List.setIfInBounds_toArray, List.set_cons_zero, List.set_cons_succ]
                            refine wpAnyH_take (i := 12) (v := ?_) rfl (by kernel_rfl) (by kernel_rfl) (by kernel_rfl) (fun _ _ _ h => h) (Or.inl ⟨by rfl, ?_⟩) (by assumption) ?_
                            rotate_left
                            · intro w' hSw; first | (go_simp; done) | (go_simp; with_reducible rfl)
                            simp only [Act.put, List.getElem_toArray, List.getElem_cons_zero, List.getElem_cons_succ, List.setIfInBounds_toArray, List.set_cons_zero, List.set_cons_succ]
                            refine wpAnyH_take (i := 13) (v := ?_) rfl (by kernel_rfl) (by kernel_rfl) (by kernel_rfl) (fun _ _ _ h => h) (Or.inl ⟨by rfl, ?_⟩) (by assumption) ?_
                            rotate_left
                            · intro w' hSw; first | (go_simp; done) | (go_simp; with_reducible rfl)
                            simp only [Act.put, List.getElem_toArray, List.getElem_cons_zero, List.getElem_cons_succ, List.setIfInBounds_toArray, List.set_cons_zero, List.set_cons_succ]
                            refine wpAnyH_take (i := 14) (v := .agg #[.int .i64 v2.g.rows, .int .i64 v2.g.cols, xk, .int .i64 v2.row, .int .i64 v2.col, .int .i64 v2.modes, .string ⟨v2.title.toArray⟩]) rfl (by kernel_rfl) (by kernel_rfl) (by kernel_rfl) (fun _ _ _ h => h) (yields_loadAt aggView (A := #[.int .i64 v2.g.rows, .int .i64 v2.g.cols, xk, .int .i64 v2.row, .int .i64 v2.col, .int .i64 v2.modes, .string ⟨v2.title.toArray⟩]) rfl rfl rfl (fun w' hS => (HE2.out.kept (HCE.out _ hS.2.out)).at_) rfl) (by assumption) ?_
                            simp only [Act.put, List.getElem_toArray, List.getElem_cons_zero, List.getElem_cons_succ, List.setIfInBounds_toArray, List.set_cons_zero, List.set_cons_succ]
                            refine wpAnyH_ready (rs := [15]) (by kernel_rfl) (by simp) ?_
                            refine AllReadyH.cons rfl (fun K hK => ?_) ?_
                            · go_simp
                              go_at_call 16
                              refine (eqView_same v2 (.slice Ab nb cb) xk _ (OwnCs.kept HO28.out HBd.out).cs (HE2.out.kept (HCE.out _ HBd.out)).rm.cs (by have := HF2.out.c; omega)).mono ?_; rintro e wn15 ⟨rfl, hb⟩
                              have HBd := Lib.hid (HBd.out.trans (hb.mono HBd.out.size))
                              have q0 : wn15.cell? ⟨w.heap.size, 0, none⟩ = some (.slice (some ad) n c) ∧ Hid (Below w28.heap.size w28 wn15) := ⟨cell_kept hb q0.1, HBd⟩
                              clear hb
                              refine hK.out _ _ q0 (fun hHeld => ?_)
                              clear hK K
                              refine wpAnyH_take (i := 16) (v := ?_) rfl (by kernel_rfl) (by kernel_rfl) (by kernel_rfl) (fun _ _ _ h => h) (Or.inl ⟨by rfl, ?_⟩) (by assumption) ?_
                              rotate_left
                              · intro w' hSw; first | (go_simp; done) | (go_simp; with_reducible rfl)
                              simp only [Act.put, List.getElem_toArray, List.getElem_cons_zero, List.getElem_cons_succ, List.setIfInBounds_toArray, List.set_cons_zero, List.set_cons_succ]
                              refine wpAnyH_take (i := 17) (v := ?_) rfl (by kernel_rfl) (by kernel_rfl) (by kernel_rfl) (fun _ _ _ h => h) (Or.inl ⟨by rfl, ?_⟩) (by assumption) ?_
                              rotate_left
                              · intro w' hSw; first | (go_simp; done) | (go_simp; with_reducible rfl)
                              simp only [Act.put, List.getElem_toArray, List.getElem_cons_zero, List.getElem_cons_succ, List.setIfInBounds_toArray, List.set_cons_zero, List.set_cons_succ]
                              refine wpAnyH_done (by kernel_rfl) ?_ _
                              go_wp2_with fail
                              go_meet
                              exact ⟨rfl, HBd⟩
                            exact AllReadyH.nil
                          exact AllReadyH.nil
                        case rest =>
                          obtain ⟨rfl, HB29⟩ := hcut
                          have HFIN := Lib.hid (HD28.out.trans (HB29.out.mono HD28.out.size))
                          clear HV28 HO28 HD28 HB28 HB29
                          go_wp2_with fail
                          go_roundw
                          case rel => exact ⟨k + 1, by omega, by go_num, HFIN⟩
                          case measure => simp [intOf]; omega
                · have d5 : decide ((k : Int) < 5) = false := decide_eq_false (by omega)
                  go_wp2_with fail
                  go_roundw
                  case rel => exact ⟨i + 1, by omega, by go_num, Lib.hid (HS5O.out.trans (HBK.out.mono HS5O.out.size))⟩
                  case measure => simp [intOf]; omega
              · obtain rfl : k = n := by omega
                go_wp2_with fail
                go_roundw
                case rel => exact ⟨i + 1, by omega, by go_num, Lib.hid (HS5O.out.trans (HBK.out.mono HS5O.out.size))⟩
                case measure => simp [intOf]; omega
      · have d5 : decide ((i : Int) < 5) = false := decide_eq_false (by omega)
        go_wp2_with fail
        refine (HWK.out _ HBR.out).mono ?_; rintro e w' ⟨rfl, hb⟩
        have HBE := Lib.hid (HBR.out.trans (hb.mono HBR.out.size))
        clear hb
        go_wp2_with fail
        go_ret
        exact ⟨rfl, HBE.out⟩
    · obtain rfl : i = n := by omega
      go_wp2_with fail
      refine (HWK.out _ HBR.out).mono ?_; rintro e w' ⟨rfl, hb⟩
      have HBE := Lib.hid (HBR.out.trans (hb.mono HBR.out.size))
      clear hb
      go_wp2_with fail
      go_ret
      exact ⟨rfl, HBE.out⟩
end Pat
end
end Go.Proofs.YtjcfbeiljdohcaaGreatDoor
