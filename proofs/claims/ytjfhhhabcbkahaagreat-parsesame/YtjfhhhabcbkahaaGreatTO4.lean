/-
  Nodes in order: the walk of the closure.
-/
import Derived.Test.YtjfhhhabcbkahaaGreatTO3
namespace Go.Proofs.YtjfhhhabcbkahaaGreat
open Go.RowKit
set_option linter.unusedVariables false
set_option linter.unusedSimpArgs false

theorem OQ.pan {w w' : World} {hi base sa nb fb : Nat} {ns : List Nt} {d : Nat} {x : List Nd} {p : Int} (h : badP d x = some p) (ho : Out (OT sa nb base) w w') (hb : Blk w' sa #[.int .i64 3, .int .i64 p] 31) : OQ w hi base sa nb fb ns d x (.returned (.bool false)) w' := by
  unfold OQ
  rw [h]
  exact ⟨ho, rfl, hb⟩
theorem OQ.ok {w w' : World} {hi base sa nb fb : Nat} {ns ns' : List Nt} {d : Nat} {x : List Nd} {ao : Option Addr} {m cap : Nat} (h : badP d x = none) (ho : Out (OT sa nb base) w w') (hs : OS w' hi base sa nb fb (.slice ao m cap) ns') (he : ns'.map Prod.snd = ns.map Prod.snd ++ absN ns.length x) : OQ w hi base sa nb fb ns d x (.returned (.bool true)) w' := by
  unfold OQ
  rw [h]
  exact ⟨ho, rfl, ao, m, cap, ns', hs, he⟩
theorem PT.outT {w w' : World} {lo hi base sa nb n b : Nat} {x : List Nd} (h : PT n w lo hi b x) (ho : Out (OT sa nb base) w w') (h1 : hi ≤ sa) (h2 : hi ≤ nb) (h3 : hi ≤ base) (hz : hi ≤ w.heap.size) : PT n w' lo hi b x :=
  h.same (fun k k1 k2 => ho.block k (by omega) (fun e => by rcases e with e | e | e <;> omega))
theorem OT.trans {w w' w'' : World} {base sa nb : Nat} (h : Out (OT sa nb base) w w') (k : Out (OT sa nb base) w' w'') : Out (OT sa nb base) w w'' := h.trans k (fun _ e => .inl e)
theorem outExt {w w' w'' : World} {base sa nb : Nat} (h : Out (OT sa nb base) w w') (k : Ext w' w'') : Out (OT sa nb base) w w'' := h.trans (T' := fun _ => False) (Out.of_ext k) (fun _ e => e.elim)
set_option maxHeartbeats 4000000 in
set_option maxRecDepth 100000 in
theorem put_any {lo hi base sa nb fb : Nat} : ∀ (n : Nat) (w : World) (b : Nat) (x : List Nd) (d : Nat) (ao : Option Addr) (m cap : Nat) (ns : List Nt), PT n w lo hi b x → OS w hi base sa nb fb (.slice ao m cap) ns → ns.length + x.length ≤ 100000000 → d ≤ 33 →
    Calls Tryz.prog 44 #[.pointer (some ⟨b, 0, none⟩), .int .i64 d, .pointer (some ⟨sa, 0, none⟩), .pointer (some ⟨nb, 0, none⟩), .pointer (some ⟨fb, 0, none⟩)] w (OQ w hi base sa nb fb ns d x)
  | 0, w, b, x, d, ao, m, cap, ns, hpt, _, _, _ => hpt.elim
  | n + 1, w, b, x, d, ao, m, cap, ns, hpt, hos, hlen, hd33 => by
    have IH := hide (put_any (lo := lo) (hi := hi) (base := base) (sa := sa) (nb := nb) (fb := fb) n)
    have HPT0 := hide hpt
    obtain ⟨kind, ty, text, num, place, kv, ks, hlb, hbh, hB, hrow, hkv, hx, hks⟩ := hpt
    have HOS := hide hos
    have o1 := hos.o1; have o2 := hos.o2; have o3 := hos.o3; have o4 := hos.o4; have o5 := hos.o5
    obtain ⟨_, _, hme⟩ := hos.row.shape
    cases hme
    obtain ⟨l, hl⟩ : ∃ l, l = ks.map Prod.snd := ⟨_, rfl⟩
    have hll : l.length = ks.length := by rw [hl]; simp
    rw [← hl] at hx
    have HX := hide hx
    have HB := hide hB
    have HROW := hide hrow
    have HKV := hide hkv
    have HKS := hide hks
    have HLK := hide hl
    have hw : hi ≤ w.heap.size := by omega
    clear hos hx hB hrow hkv hks hl
    by_cases hd : 32 < d
    · have hbad : badP d x = some place := by rw [unhide HX, badP_mk, if_pos hd]
      have g1 : decide ((32 : Int) < (d : Int)) = true := decide_eq_true (by omega)
      have p5 := (unhide HB).cell (i := 5) (v := .int .i64 place) rfl
      have HBAD := hide hbad
      have hne : b ≠ sa := by omega
      have HSP := hide (unhide HOS).spot
      have s0 := (unhide HSP).cell (i := 0) (v := .int .i64 0) rfl
      have s1 := (unhide HSP).cell (i := 1) (v := .int .i64 0) rfl
      have fs := fun j => (unhide HSP).free j
      have HSP2 := hide (((unhide HSP).set 0 (.int .i64 0)).set 1 (.int .i64 0))
      clear hbad
      go_enter Tryz.func44, Tryz.ntmps44
      go_wp2
      go_region
      all_goals go_wp2
      go_ret
      have ho : Out (OT sa nb base) w (((((w.setCell ⟨sa, 0, none⟩ (.int .i64 0)).setCell ⟨sa, 1, none⟩ (.int .i64 0)).setCell ⟨sa, 0, none⟩ (.int .i64 3)).setCell ⟨sa, 1, none⟩ (.int .i64 place)).drew) :=
        outExt (((((Out.refl _ w).set (.inl (.inl rfl))).set (.inl (.inl rfl))).set (.inl (.inl rfl))).set (.inl (.inl rfl))) ((Ext.refl _).drew)
      exact OQ.pan (unhide HBAD) ho ((((((unhide HSP).set 0 _).set 1 _).set 0 _).set 1 _).ext ((Ext.refl _).drew))
    · have hd2 : d ≤ 32 := by omega
      have hbad0 : badP d x = badP (d + 1) l.flatten := by rw [unhide HX, badP_mk, if_neg hd]
      have HBAD := hide hbad0
      have g1 : decide ((32 : Int) < (d : Int)) = false := decide_eq_false (by omega)
      have hxl : x.length = 1 + l.flatten.length := by
        rw [unhide HX]
        unfold mkN
        rw [List.length_cons, List.length_map]
        omega
      have hkl : l.length ≤ 1000000000 := by
        have hbound : ∀ q : List (List Nd), (∀ y ∈ q, 1 ≤ y.length) → q.length ≤ q.flatten.length := by
          intro q
          induction q with
          | nil => intro _; simp
          | cons y q ih =>
            intro h
            have h1 := h y (by simp)
            have h2 := ih (fun z hz => h z (by simp [hz]))
            simp only [List.flatten_cons, List.length_append, List.length_cons]
            omega
        have := hbound l (fun y hy => by
          rw [unhide HLK] at hy
          obtain ⟨k, hk, rfl⟩ := List.mem_map.1 hy
          have h5 := unhide HKS k hk
          cases n with
          | zero => exact h5.elim
          | succ n =>
            obtain ⟨_, _, _, _, _, _, _, _, _, _, _, _, e, _⟩ := h5
            rw [e]
            simp [mkN])
        omega
      have v0 := (unhide HOS).var.cell (i := 0) (v := .slice ao ns.length cap) rfl
      have e0 := (unhide HB).cell (i := 0) (v := .int .i64 kind) rfl
      have e1 := (unhide HB).cell (i := 1) (v := .string ⟨ty.toArray⟩) rfl
      have e2 := (unhide HB).cell (i := 2) (v := .string ⟨text.toArray⟩) rfl
      have e3 := (unhide HB).cell (i := 3) (v := .int .i32 num) rfl
      have e4 := (unhide HB).cell (i := 4) (v := .slice none 0 0) rfl
      have e5 := (unhide HB).cell (i := 5) (v := .int .i64 place) rfl
      clear hbad0
      go_enter Tryz.func44, Tryz.ntmps44
      go_wp2
      go_cut [22] (fun p wc => ∃ w5 a5 c5, w5 = wc ∧ OS wc hi base sa nb fb (.slice a5 (ns.length + 1) c5) (ns ++ [(.slice none 0 0, withK ⟨kind, ty, text, num, place, [], 0⟩ [])]) ∧ Out (OT sa nb base) w wc)
      case first =>
        obtain ⟨a5, c5, w5, hrun0, n5, f5, hos5, ho5⟩ := ((unhide HOS).ext ((Ext.refl w).drew)).push ⟨kind, ty, text, num, place, [], 0⟩ (by omega)
        have hrun : (Builtin.append_ #[22, 22] 22 #[.slice ao ns.length cap, .slice (some ⟨w.heap.size, 0, none⟩) 1 1]).run Tryz.prog (w.alloc (.cells #[.int .i64 kind, .string ⟨ty.toArray⟩, .string ⟨text.toArray⟩, .int .i32 num, .slice none 0 0, .int .i64 place] 39)).drew = .ok (.slice a5 (ns.length + 1) c5) w5 := hrun0
        have va := ((unhide HOS).ext ((Ext.refl w).alloc (.cells #[.int .i64 kind, .string ⟨ty.toArray⟩, .string ⟨text.toArray⟩, .int .i32 num, .slice none 0 0, .int .i64 place] 39))).var.cell (i := 0) (v := .slice ao ns.length cap) rfl
        have HOS5 := hide hos5
        have HO5 := hide (OT.trans (Out.of_ext ((Ext.refl w).drew)) ho5)
        clear hrun0 hos5 ho5
        go_region_law ((refine step_run (by rfl) (.tmp 22) (.tmp 27) 22 (by rfl) (by rfl) (by rfl) hrun ?_))
        all_goals go_wp2
        all_goals go_meet
        all_goals exact ⟨_, a5, c5, rfl, unhide HOS5, unhide HO5⟩
      case rest =>
        obtain ⟨w5, a5, c5, rfl, hos5, ho5⟩ := hcut
        have HOS5 := hide hos5
        have HO5 := hide ho5
        have k6 := ((unhide HB).out ho5 (by rintro (e | e | e) <;> omega)).cell (i := 6) (v := kv) rfl
        have hkvs : ∃ ko kc, kv = .slice ko ks.length kc := by
          rcases (unhide HROW).2 with ⟨e, h0⟩ | ⟨g, c, cur, e, _⟩
          · exact ⟨none, 0, by rw [e, h0]⟩
          · exact ⟨_, c, e⟩
        obtain ⟨ko, kc, rfl⟩ := hkvs
        clear hos5 ho5 v0 e0 e1 e2 e3 e4 e5
        go_wp2
        have hks32 : ks.length ≤ 1000000000 := by omega
        go_loopw [34] (fun iv wr => ∃ (q : Nat) (a6 : Option Addr) (m6 c6 : Nat) (n6 : List Nt), q ≤ ks.length ∧ iv = .int .i64 q ∧ OS wr hi base sa nb fb (.slice a6 m6 c6) n6 ∧ n6.map Prod.snd = ns.map Prod.snd ++ ⟨kind, ty, text, num, place, rootK ns.length l q, 0⟩ :: absN (ns.length + 1) (l.take q).flatten ∧ badP (d + 1) (l.take q).flatten = none ∧ Out (OT sa nb base) w wr) (fun iv _ => ks.length - (intOf iv).toNat)
        case atStart => exact ⟨0, a5, ns.length + 1, c5, _, by omega, rfl, unhide HOS5, by simp [rootK_zero, absN, withK], rfl, unhide HO5⟩
        case round =>
          obtain ⟨q, a6, m6, c6, n6, hq, rfl, hos6, he6, hb6, ho6⟩ := hrel
          have HOS6 := hide hos6
          have HO6 := hide ho6
          have HE6 := hide he6
          have HB6 := hide hb6
          clear HOS5 HO5 hos6 ho6 he6 hb6 k6
          by_cases hlt : q < ks.length
          · have hql : q < l.length := by omega
            obtain ⟨kb, kx, hkb, hpk, hkx⟩ : ∃ kb kx, (∃ g, ko = some ⟨g, 0, none⟩ ∧ wr.cell? ⟨g, q, none⟩ = some (.pointer (some ⟨kb, 0, none⟩))) ∧ PT n w lo hi kb kx ∧ l[q] = kx := by
              have hmem := List.getElem_mem hlt
              refine ⟨ks[q].1, ks[q].2, ?_, (unhide HKS) _ hmem, ?_⟩
              · rcases (unhide HROW).2 with ⟨e, h0⟩ | ⟨g, c, cur, e, h1, h2, _⟩
                · omega
                · cases e
                  refine ⟨g, rfl, ?_⟩
                  have hg := unhide HKV g rfl
                  have hc := World.ownsRow.cells (unhide HROW) (g := g) rfl q (.pointer (some ⟨ks[q].1, 0, none⟩)) (by simp [hlt, ptrK])
                  rw [Addr.add_lit, Nat.zero_add] at hc
                  exact cell_out hc (unhide HO6) (by rintro (e | e | e) <;> simp only at e <;> omega)
              · have := unhide HLK
                subst this
                simp
            obtain ⟨gk, rfl, ck⟩ := hkb
            have HKP := hide hpk
            clear hpk
            obtain ⟨_, _, hme⟩ := (unhide HOS6).row.shape
            cases hme
            have hn6 : n6.length = ns.length + 1 + (l.take q).flatten.length := by
              have := congrArg List.length (unhide HE6)
              rw [List.length_map, List.length_append, List.length_map, List.length_cons, absN_len] at this
              omega
            have hfl : (l.take q).flatten.length + l[q].length ≤ l.flatten.length := by
              have e : l.flatten = (l.take (q + 1)).flatten ++ (l.drop (q + 1)).flatten := by rw [← List.flatten_append, List.take_append_drop]
              rw [e, List.length_append, List.take_succ_eq_append_getElem hql, List.flatten_append, List.length_append]
              simp
            rw [hkx] at hfl
            obtain ⟨A, rt, B, hAB, hAl⟩ : ∃ A rt B, n6 = A ++ rt :: B ∧ A.length = ns.length := by
              refine ⟨n6.take ns.length, n6[ns.length]'(by omega), n6.drop (ns.length + 1), ?_, by rw [List.length_take]; omega⟩
              rw [← List.drop_eq_getElem_cons (by omega), List.take_append_drop]
            subst hAB
            have hsplit : A.map Prod.snd = ns.map Prod.snd ∧ rt.2 = ⟨kind, ty, text, num, place, rootK ns.length l q, 0⟩ ∧ B.map Prod.snd = absN (ns.length + 1) (l.take q).flatten := by
              have h := unhide HE6
              rw [List.map_append, List.map_cons] at h
              have h2 := List.append_inj h (by simp [hAl])
              have h3 := List.cons.inj h2.2
              exact ⟨h2.1, h3.1, h3.2⟩
            have HSPL := hide hsplit
            obtain ⟨gv, hgv⟩ : ∃ gv, a6 = some ⟨gv, 0, none⟩ := by
              rcases (unhide HOS6).row.own.2 with ⟨e, h0⟩ | ⟨g, c, cur, e, _⟩
              · simp at h0
              · cases e
                exact ⟨g, rfl⟩
            subst hgv
            obtain ⟨nn, hnn⟩ : ∃ nn, nn = (A ++ rt :: B).length := ⟨_, rfl⟩
            rw [← hnn] at HOS6 hn6
            have HNN := hide hnn
            have HN6 := hide hn6
            have hnb : ns.length < nn ∧ nn ≤ 100000000 := by omega
            have hxm : rt ∈ A ++ rt :: B := by simp
            obtain ⟨ro, rc, hrt⟩ : ∃ ro rc, rt.1 = .slice ro rt.2.kids.length rc := by
              rcases ((unhide HOS6).row.kid rt hxm).2 with ⟨e, h0⟩ | ⟨g, c, cur, e, _⟩
              · exact ⟨none, 0, by rw [e, h0]⟩
              · exact ⟨_, c, e⟩
            have hkl2 : rt.2.kids.length ≤ 1000000000 := by
              rw [(unhide HSPL).2.1]
              simp only [rootK, List.length_map, List.length_take]
              omega
            have hcell : ∀ wz, Ext wr wz → wz.cell? ⟨gv, ns.length * 6 + 4, none⟩ = some (.slice ro rt.2.kids.length rc) := fun wz hz => by
              have := World.ownsRow.cells ((unhide HOS6).ext hz).row.own (g := gv) rfl (A.length * 6 + 4) rt.1 (by
                rw [ncells_get _ A.length (by simp) 4 (by decide)]
                simp [ncell])
              rw [Addr.add_lit, Nat.zero_add, hAl, hrt] at this
              exact this
            have HCELL := hide hcell
            have HRT := hide hrt
            have HAL := hide hAl
            obtain ⟨rl, hrl⟩ : ∃ rl, rl = rt.2.kids.length := ⟨_, rfl⟩
            have HRL := hide hrl
            clear hn6 hnn hsplit hrt hcell hxm hAl
            rw [← hrl] at HCELL HRT
            clear hrl
            have i0 : (0 : Int) ≤ (ns.length : Int) ∧ (ns.length : Int) < (nn : Int) := ⟨by omega, by omega⟩
            have i1 : (0 : Int) ≤ (q : Int) ∧ (q : Int) < (ks.length : Int) := ⟨by omega, by omega⟩
            go_wp2
            go_cut [38] (fun p wc => ∃ w7 ro7 n7 c7, w7 = wc ∧ OS wc hi base sa nb fb (.slice (some ⟨gv, 0, none⟩) nn c6) (A ++ (.slice ro7 n7 c7, withK rt.2 (rt.2.kids ++ [nn])) :: B) ∧ Out (OT sa nb base) w wc)
            case first =>
              have v0 := (unhide HOS6).var.cell (i := 0) (v := .slice (some ⟨gv, 0, none⟩) nn c6) rfl
              have kc0 := unhide HCELL wr (Ext.refl wr)
              have va := ((unhide HOS6).ext ((Ext.refl wr).alloc (.cells #[.int .i64 (nn : Int)] 3))).var.cell (i := 0) (v := .slice (some ⟨gv, 0, none⟩) nn c6) rfl
              have kca := unhide HCELL _ ((Ext.refl wr).alloc (.cells #[.int .i64 (nn : Int)] 3))
              obtain ⟨a8, c8, w8, hrun0, cx8, fx8, cn8, hos8, ho8⟩ := ((unhide HOS6).ext ((Ext.refl wr).drew)).kid nn hkl2
              rw [unhide HRT, ← unhide HRL] at hrun0
              rw [unhide HAL, ← unhide HRL] at hos8 ho8
              rw [unhide HAL] at cx8 fx8
              rw [unhide HRT] at cx8
              have hrun : (Builtin.append_ #[37, 37] 37 #[.slice ro rl rc, .slice (some ⟨wr.heap.size, 0, none⟩) 1 1]).run Tryz.prog (wr.alloc (.cells #[.int .i64 (nn : Int)] 3)).drew = .ok (.slice a8 (rl + 1) c8) w8 := hrun0
              have HOS8 := hide hos8
              have HO8 := hide (OT.trans (unhide HO6) (OT.trans (Out.of_ext ((Ext.refl wr).drew)) ho8))
              clear hrun0 hos8 ho8 ck
              go_region_law ((refine step_run (by rfl) (.tmp 44) (.tmp 47) 37 (by rfl) (by rfl) (by rfl) hrun ?_))
              all_goals go_wp2
              all_goals go_meet
              all_goals exact ⟨_, a8, _, c8, rfl, unhide HOS8, unhide HO8⟩
            case rest =>
              obtain ⟨w7, ro7, n7, c7, rfl, hos7, ho7⟩ := hcut
              have HOS7 := hide hos7
              have HO7 := hide ho7
              have fn0 := (unhide HOS7).fn.cell (i := 0) (v := .func (.func 44) #[] #[.pointer (some ⟨sa, 0, none⟩), .pointer (some ⟨nb, 0, none⟩), .pointer (some ⟨fb, 0, none⟩)]) rfl
              have hlen7 : (A ++ (.slice ro7 n7 c7, withK rt.2 (rt.2.kids ++ [nn])) :: B : List Nt).length = nn := by rw [unhide HNN]; simp
              have HC0 := unhide IH w7 kb kx (d + 1) (some ⟨gv, 0, none⟩) nn c6 _ (unhide HKP |>.outT (unhide HO7) (by omega) (by omega) (by omega) hw) hos7 (by rw [hlen7]; have := unhide HN6; omega) (by omega)
              rw [show ((d + 1 : Nat) : Int) = (d : Int) + 1 by omega] at HC0
              have hmap7 : (A ++ (.slice ro7 n7 c7, withK rt.2 (rt.2.kids ++ [nn])) :: B : List Nt).map Prod.snd = ns.map Prod.snd ++ ⟨kind, ty, text, num, place, rootK ns.length l (q + 1), 0⟩ :: absN (ns.length + 1) (l.take q).flatten := by
                rw [List.map_append, List.map_cons, (unhide HSPL).1, (unhide HSPL).2.2, rootK_succ _ _ _ hql]
                have e1 := (unhide HSPL).2.1
                have e2 : nn = ns.length + 1 + (l.take q).flatten.length := unhide HN6
                rw [← e2]
                simp only [withK, e1]
              have hbt := badP_take (d + 1) l q hql
              rw [unhide HB6, hkx] at hbt
              have HBT := hide hbt
              have HM7 := hide hmap7
              have HL7 := hide hlen7
              have HKX := hide hkx
              clear hbt hmap7 hlen7 hos7 ho7 hkx
              unfold OQ at HC0
              rw [unhide HL7] at HC0
              obtain ⟨bp, hbp⟩ : ∃ bp, badP (d + 1) kx = bp := ⟨_, rfl⟩
              rw [hbp] at HC0 HBT
              have HC := hide HC0
              clear HC0 hbp
              cases bp with
              | some p =>
                have hfin : badP d x = some p := by
                  rw [unhide HBAD]
                  exact badP_some (d + 1) l (q + 1) (unhide HBT)
                have HF := hide hfin
                clear hfin
                go_wp2_with fail
                refine (unhide HC).mono ?_
                rintro e w8 ⟨ho8, rfl, hsp⟩
                have HO8 := hide (OT.trans (unhide HO7) ho8)
                have HSP := hide hsp
                clear ho8 hsp
                go_wp2
                go_ret
                exact OQ.pan (unhide HF) (unhide HO8) (unhide HSP)
              | none =>
                go_wp2_with fail
                refine (unhide HC).mono ?_
                rintro e w8 ⟨ho8, rfl, a8, m8, c8, n8, hos8, he8⟩
                have HO8 := hide (OT.trans (unhide HO7) ho8)
                have HOS8 := hide hos8
                have HE8 : Hid (n8.map Prod.snd = ns.map Prod.snd ++ ⟨kind, ty, text, num, place, rootK ns.length l (q + 1), 0⟩ :: absN (ns.length + 1) (l.take (q + 1)).flatten) := by
                  show n8.map Prod.snd = _
                  rw [he8, unhide HM7, List.take_succ_eq_append_getElem hql, List.flatten_append, absN_app, unhide HKX]
                  have e2 : nn = ns.length + 1 + (l.take q).flatten.length := unhide HN6
                  rw [← e2]
                  simp
                clear ho8 hos8 he8
                go_wp2
                refine ⟨⟨q + 1, a8, m8, c8, n8, by omega, by push_cast; rfl, unhide HOS8, unhide HE8, unhide HBT, unhide HO8⟩, ?_⟩
                simp [intOf]
                omega
          · have hqe : q = ks.length := by omega
            have htk : l.take q = l := List.take_of_length_le (by omega)
            have hfin : badP d x = none := by
              rw [unhide HBAD, ← unhide HB6, htk]
            have hfe : n6.map Prod.snd = ns.map Prod.snd ++ absN ns.length x := by
              rw [unhide HE6, unhide HX, absN_mk, htk, hqe, ← hll]
            have HF := hide hfin
            have HFE := hide hfe
            clear hfin hfe htk
            go_wp2
            go_ret
            exact OQ.ok (unhide HF) (unhide HO6) (unhide HOS6) (unhide HFE)
end Go.Proofs.YtjfhhhabcbkahaaGreat
