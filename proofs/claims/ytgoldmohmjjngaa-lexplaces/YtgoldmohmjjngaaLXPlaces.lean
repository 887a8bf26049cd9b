/-
  LexPlaces: tokens stand in order where they say, and between them there are blanks and comments alone; for every text.
-/
import Derived.Test.YtgoldmohmjjngaaXW
import Derived.Test.YtgoldmohmjjngaaXP
import Derived.Test.YtgoldmohmjjngaaFrH
import Derived.Deep.QuietTactic
import Derived.BigQuiet
import Derived.ChangeMaps5
namespace Go.Proofs.Ytgoldmohmjjngaa
open Go.ChangeShapes Go.WideShapes Go.ChangeAt Go.RowKit
open Go.ChangeMaps (open_string)
set_option linter.unusedSimpArgs false
set_option linter.unusedVariables false

/-- Tokens, in order, from a place on. -/
def Placed (S : Byts8) : Nat → List Tok → Prop
  | e, [] => lexP (S.drop e) = ([], 0, 0)
  | e, t :: ts => ∃ p z : Nat, t.place = p ∧ t.text = (S.drop p).take z ∧ 1 ≤ z ∧ e ≤ p ∧ p + z ≤ S.length ∧ lexP ((S.drop e).take (p - e)) = ([], 0, 0) ∧ t.line = (cntL (S.take p) : Nat) ∧ Placed S (p + z) ts
theorem lexP_small {l : Byts8} (h : l.length ≤ 8192) : lexP l = lexA l 0 0 0 := by unfold lexP; rw [if_neg (by omega)]
theorem placed (S : Byts8) (hS : S.length ≤ 8192) (d : Nat) : ∀ (e : Nat) (n : Nat) (ts : List Tok), S.length - e ≤ d → e ≤ S.length → lexA (S.drop e) e (cntL (S.take e) : Nat) n = (ts, 0, 0) → Placed S e ts := by
  induction d with
  | zero =>
    intro e n ts hd he h
    have h0 : S.drop e = [] := List.drop_of_length_le (by omega)
    rw [h0, lexA_nil] at h
    cases h
    show lexP (S.drop e) = _
    rw [h0, lexP_small (by simp), lexA_nil]
  | succ d ih =>
    intro e n ts hd he h
    have hsk := skip_take (S.drop e) 0 0 0
    have hle := skip_le (S.drop e)
    have hst := skip_stop (S.drop e)
    rw [lexA_skip] at h
    generalize skipN (S.drop e) = s at *
    rw [List.length_drop] at hle
    rw [List.drop_drop] at h hst
    by_cases h0 : S.drop (e + s) = []
    · rw [h0, lexA_nil] at h
      cases h
      show lexP (S.drop e) = _
      have hl : (S.drop e).take s = S.drop e := by
        refine List.take_of_length_le ?_
        have := congrArg List.length h0
        rw [List.length_drop, List.length_nil] at this
        rw [List.length_drop]
        omega
      rw [hl] at hsk
      rw [lexP_small (by rw [List.length_drop]; omega)]
      exact hsk
    have hst := hst h0
    obtain ⟨k, z, hp⟩ : ∃ k z, pieceP (S.drop (e + s)) = (k, z) := ⟨_, _, rfl⟩
    have hr := piece_room _ h0
    rw [hp] at hr hst
    rw [List.length_drop] at hr
    simp only at hr hst
    have hcnt : ((cntL (S.take e) : Nat) : Int) + (cntL ((S.drop e).take s) : Nat) = (cntL (S.take (e + s)) : Nat) := by
      rw [take_split, cntL_add]
      push_cast
      rfl
    rw [hcnt] at h
    by_cases ht : (tellP k ((S.drop (e + s)).take z) ((S.drop (e + s)).drop z) n).2 = 0
    · rw [lexA_tok h0 hp hst _ _ _ ht, List.drop_drop] at h
      have hc2 : ((cntL (S.take (e + s)) : Nat) : Int) + (cntL ((S.drop (e + s)).take z) : Nat) = (cntL (S.take (e + s + z)) : Nat) := by
        rw [take_split S (e + s) z, cntL_add]
        push_cast
        rfl
      rw [hc2] at h
      obtain ⟨r, hr2⟩ : ∃ r, lexA (S.drop (e + s + z)) (((e : Int) + (s : Nat)) + (z : Nat)) (cntL (S.take (e + s + z)) : Nat) (n + 1) = r := ⟨_, rfl⟩
      rw [hr2] at h
      obtain ⟨r1, r2, r3⟩ := r
      by_cases hz : r2 = 0
      · rw [if_neg (by simpa using hz)] at h
        cases h
        have hf := lexA_form (S.drop (e + s + z)) (((e : Int) + (s : Nat)) + (z : Nat)) (cntL (S.take (e + s + z)) : Nat) (n + 1)
        rw [hr2] at hf
        have h3 := hf.1 hz
        simp only at h3
        subst hz h3
        refine ⟨e + s, z, by push_cast; rfl, rfl, hr.1, by omega, by omega, ?_, rfl, ?_⟩
        · rw [Nat.add_sub_cancel_left, lexP_small (by rw [List.length_take, List.length_drop]; omega)]
          exact hsk
        · refine ih (e + s + z) (n + 1) r1 (by omega) (by omega) ?_
          rw [← hr2]
          push_cast
          rfl
      · rw [if_pos hz] at h
        cases h
        exact absurd rfl hz
    · rw [lexA_bad h0 hp hst _ _ _ ht] at h
      simp only [Prod.mk.injEq] at h
      exact absurd h.2.1 ht
theorem placed_all (S : Byts8) (hS : S.length ≤ 8192) (h : (lexP S).2.1 = 0) : Placed S 0 (lexP S).1 := by
  rw [lexP_small hS] at h ⊢
  refine placed S hS S.length 0 0 _ (by omega) (by omega) ?_
  have hf := (lexA_form S 0 0 0).1 h
  rw [List.drop_zero, List.take_zero]
  show lexA S 0 0 0 = _
  generalize lexA S 0 0 0 = r at *
  obtain ⟨r1, r2, r3⟩ := r
  have h1 : r2 = 0 := h
  have h2 : r3 = 0 := hf
  rw [h1, h2]
theorem placed_len (S : Byts8) : ∀ (ts : List Tok) (e : Nat), e ≤ S.length → Placed S e ts → ts.length + e ≤ S.length
  | [], e, he, _ => by simpa using he
  | t :: ts, e, he, h => by
    obtain ⟨p, z, _, _, hz, hep, hps, _, _, hn⟩ := h
    have := placed_len S ts (p + z) hps hn
    simp only [List.length_cons]
    omega
theorem cntL_mono (S : Byts8) {i j : Nat} (h : i ≤ j) : cntL (S.take i) ≤ cntL (S.take j) := by
  obtain ⟨d, rfl⟩ : ∃ d, j = i + d := ⟨j - i, by omega⟩
  rw [take_split, cntL_add]
  omega

theorem short_any (s : ByteArray) (w : World) : Calls Try.prog 10 #[.string s] w fun e w' => e = .returned (.string (s.extract 0 (min s.size 8193))) ∧ w' = w := by
  have hmn : (min (s.size : Int) 8193).toNat = min s.size 8193 := by omega
  go_enter Try.func10, Try.ntmps10
  go_wp2
  go_ret
  exact ⟨rfl, rfl⟩

set_option maxHeartbeats 4000000 in
set_option maxRecDepth 100000 in
theorem lexPlaces_any (s0 : ByteArray) (W : World) (m : Int) (hm : W.cell? ⟨0, 0, none⟩ = some (.int .i64 m)) :
    Calls Try.prog 8 #[.string s0] W fun e w' => e = .returned (.bool true) ∧ Ext W w' := by
  have HM := hide hm
  clear hm
  have hsz : (s0.extract 0 (min s0.size 8193)).size ≤ 8193 := by rw [ByteArray.size_extract]; omega
  go_enter Try.func8, Try.ntmps8
  go_wp2_with fail
  refine (lexWakes_any W m (unhide HM)).mono ?_
  rintro e w1 ⟨rfl, hx1⟩
  have HM1 := hide (keepM (unhide HM) hx1)
  have X1 := hide hx1
  clear HM hx1
  go_wp2_with fail
  refine (short_any s0 w1).mono ?_
  rintro e w2 ⟨rfl, rfl⟩
  generalize s0.extract 0 (min s0.size 8193) = s at *
  have hl := list_size s
  go_wp2_with fail
  refine (lex_any s w2 m (unhide HM1)).mono ?_
  rintro e w3 ⟨ao, cap, rfl, hO, hx3⟩
  obtain ⟨R, hR⟩ : ∃ R, lexP s.data.toList = R := ⟨_, rfl⟩
  rw [hR] at hO ⊢
  have hx4 := hx3.alloc (.cells #[.int .i64 R.2.1, .int .i64 R.2.2] 27)
  have HM4 := hide (keepM (unhide HM1) hx4)
  have X4 := hide ((unhide X1).trans hx4)
  have HT4 := hide ((TO.tr hO).ext ((Ext.refl w3).alloc (.cells #[.int .i64 R.2.1, .int .i64 R.2.2] 27)))
  have HR := hide hR
  clear hO hx3 hx4 HM1 X1 hR
  by_cases he : R.2.1 = 0
  · have he' : (!(R.2.1 == 0)) = false := by rw [he]; rfl
    have hS : s.data.toList.length ≤ 8192 := by
      refine Nat.le_of_not_lt fun h => ?_
      have := unhide HR
      unfold lexP at this
      rw [if_pos h] at this
      rw [← this] at he
      cases he
    have hP := placed_all s.data.toList hS (by rw [unhide HR]; exact he)
    rw [unhide HR] at hP
    have hLL := placed_len _ _ _ (by omega) hP
    have HP := hide hP
    clear hP HR
    obtain ⟨L, r1, r2⟩ := R
    have he0 : r1 = 0 := he
    subst he0
    clear he he'
    simp only at HT4 HP HM4 X4 hLL ⊢
    go_wp2
    generalize w3.alloc (.cells #[.int .i64 0, .int .i64 r2] 27) = w4 at HM4 X4 HT4 ⊢
    go_loopw [5, 6, 29] (fun ev lv iv wr => ∃ (i e q : Nat), i ≤ L.length ∧ iv = .int .i64 i ∧ ev = .int .i64 e ∧ lv = .int .i64 (cntL (s.data.toList.take q) : Nat) ∧ q ≤ e ∧ e ≤ s.size ∧ (∀ h : i - 1 < L.length, 0 < i → L[i - 1].line = (cntL (s.data.toList.take q) : Nat)) ∧ Placed s.data.toList e (L.drop i) ∧ Ext w4 wr) (fun _ _ iv _ => L.length - (intOf iv).toNat)
    case atStart =>
      refine ⟨0, 0, 0, by omega, rfl, rfl, rfl, by omega, by omega, fun _ h => absurd h (by omega), ?_, Ext.refl _⟩
      rw [List.drop_zero]
      exact unhide HP
    case round =>
      obtain ⟨i, e, q, hi, rfl, rfl, rfl, hqe, hes, hpr, hpl, hx⟩ := hrel
      have HT := hide ((unhide HT4).ext hx)
      have HMr := hide (keepM (unhide HM4) hx)
      have X := hide hx
      clear hx HP
      by_cases hlt : i < L.length
      · rw [List.drop_eq_getElem_cons hlt] at hpl
        obtain ⟨p, z, hp, htx, hz, hep, hps, hgap, hln, hnext⟩ := hpl
        rw [hl] at hps
        obtain ⟨b, off, rfl, ht⟩ := (unhide HT).at i hlt
        have htx2 : (⟨L[i].text.toArray⟩ : ByteArray) = s.extract p (p + z) := by rw [htx, ext_text, Nat.add_sub_cancel_left]
        have c0 := ht.kind
        have c1 := ht.text
        have c2 := ht.num
        have c3 := ht.place
        have c4 := ht.line
        rw [htx2] at c1
        rw [hp] at c3
        rw [hln] at c4
        have hzs : (s.extract p (p + z)).size = z := by rw [ByteArray.size_extract]; omega
        have hmono := cntL_mono s.data.toList (show q ≤ p by omega)
        have HN := hide (And.intro hgap (And.intro hln hnext))
        have HPR := hide hpr
        clear hp htx htx2 ht hgap hln hnext hpr
        generalize cntL (s.data.toList.take q) = cq at *
        generalize hcp : cntL (s.data.toList.take p) = cp at *
        have HCP := hide hcp
        clear hcp
        generalize L[i].kind = tk at *
        generalize L[i].num = tn at *
        go_wp2
        have b1 : decide (p < e) = false := by simp; omega
        have q8 : IntKind.i64.wrap ((p : Int) + (z : Int)) = (p : Int) + (z : Int) := wrapId (by omega) (by omega)
        have b2 : decide ((s.size : Int) < (p : Int) + (z : Int)) = false := by simp; omega
        have b3 : ((z : Int) == 0) = false := beq_eq_false_iff_ne.2 (by omega)
        have b4 : decide (cp < cq) = false := by simp; omega
        have q4 : ((p : Int) + z).toNat = p + z := by omega
        go_quiet (fail)
        have HBa := hide ((Blk.new wr #[.int .i64 tk, .string (s.extract p (p + z)), .int .i32 tn, .int .i64 (p : Int), .int .i64 (cp : Int)] 33).drewN nq)
        have Xa : Hid (Ext wr ((wr.alloc (.cells #[.int .i64 tk, .string (s.extract p (p + z)), .int .i32 tn, .int .i64 (p : Int), .int .i64 (cp : Int)] 33)).drewN nq)) := ((Ext.refl wr).alloc _).drewN nq
        generalize (wr.alloc (.cells #[.int .i64 tk, .string (s.extract p (p + z)), .int .i32 tn, .int .i64 (p : Int), .int .i64 (cp : Int)] 33)).drewN nq = wA at HBa Xa ⊢
        have k1 := (unhide HBa).cell (i := 1) (v := .string (s.extract p (p + z))) rfl
        have k3 := (unhide HBa).cell (i := 3) (v := .int .i64 (p : Int)) rfl
        have k4 := (unhide HBa).cell (i := 4) (v := .int .i64 (cp : Int)) rfl
        have HLx := lex_any (s.extract e p) wA m (keepM (unhide HMr) (unhide Xa))
        rw [Lib.extract_data, (unhide HN).1] at HLx
        have HLq := hide HLx
        clear HLx c0 c1 c2 c3 c4 b1 b2 b3 b4
        go_wp2_with fail
        refine (unhide HLq).mono ?_
        rintro e' wB ⟨aoB, capB, rfl, _, hxB⟩
        have HBb := hide ((unhide HBa).ext hxB)
        have k1b := (unhide HBb).cell (i := 1) (v := .string (s.extract p (p + z))) rfl
        have k3b := (unhide HBb).cell (i := 3) (v := .int .i64 (p : Int)) rfl
        have k4b := (unhide HBb).cell (i := 4) (v := .int .i64 (cp : Int)) rfl
        have hab : ∀ (o : Obj) j u, wB.cell? ⟨wr.heap.size, j, none⟩ = some u → (wB.alloc o).cell? ⟨wr.heap.size, j, none⟩ = some u := fun o j u hu => by
          rw [((Ext.refl wB).alloc o).cell (p := ⟨wr.heap.size, j, none⟩) (World.block_lt_of_cell? wB _ hu)]
          exact hu
        have k1c := fun o => hab o _ _ k1b
        have k3c := fun o => hab o _ _ k3b
        have k4c := fun o => hab o _ _ k4b
        have Xb := hide ((unhide X).trans ((unhide Xa).trans hxB))
        clear hxB HLq hab k1 k3 k4 k1b k3b k4b
        go_wp2
        go_loop [11, 95] (fun nv kv => ∃ k : Nat, k ≤ p ∧ kv = .int .i64 k ∧ nv = .int .i64 (cntL (s.data.toList.take k) : Nat)) (fun _ kv => p - (intOf kv).toNat)
        case atStart => exact ⟨0, by omega, rfl, rfl⟩
        case round =>
          obtain ⟨k, hk, rfl, rfl⟩ := hrel
          by_cases hkp : k < p
          · have hks : k < s.size := by omega
            have hst : cntL (s.data.toList.take (k + 1)) = cntL (s.data.toList.take k) + if s[k] = 10 then 1 else 0 := by
              rw [take_succ_get s k hks, cntL_add]
              congr 1
              unfold cntL Lib.countByte
              rw [List.count_singleton]
              simp [beq_iff_eq]
            have hcb := cntL_le (s.data.toList.take k)
            rw [List.length_take] at hcb
            by_cases h10 : s[k] = 10
            · have d10 : ((s[k].toNat : Int) == 10) = true := by rw [h10]; rfl
              rw [if_pos h10] at hst
              clear h10
              go_wp2
              refine ⟨⟨k + 1, by omega, rfl, by rw [hst]; rfl⟩, ?_⟩
              simp [intOf]
              omega
            · have d10 : ((s[k].toNat : Int) == 10) = false := beq_eq_false_iff_ne.2 (fun e => h10 (UInt8.toNat_inj.1 (by exact_mod_cast e)))
              rw [if_neg h10, Nat.add_zero] at hst
              clear h10
              go_wp2
              refine ⟨⟨k + 1, by omega, rfl, by rw [hst]; rfl⟩, ?_⟩
              simp [intOf]
              omega
          · have hke : k = p := by omega
            subst hke
            rw [unhide HCP]
            have b5 : ((cp : Int) == (cp : Int)) = true := by simp
            have q8 : IntKind.i64.wrap ((k : Int) + (z : Int)) = (k : Int) + (z : Int) := wrapId (by omega) (by omega)
            have HTb := hide (((unhide HT4).ext (unhide Xb)).ext ((Ext.refl wB).alloc (.cells #[.int .i64 0, .int .i64 0] 27)))
            rcases Nat.eq_zero_or_pos i with hi0 | hi0
            · subst hi0
              have d0 : decide ((0 : Int) < 0) = false := by simp
              go_wp2
              go_quiet (fail)
              go_wp2
              go_quiet (fail)
              go_wp2
              refine ⟨⟨1, k + z, k, by omega, rfl, rfl, by rw [unhide HCP], by omega, by omega, fun h _ => ?_, ?_, ?_⟩, ?_⟩
              · have := (unhide HN).2.1
                rw [unhide HCP]
                exact this
              · exact (unhide HN).2.2
              · exact (unhide Xb).trans (((Ext.refl wB).alloc _).drewN _)
              · simp [intOf]
                omega
            · obtain ⟨j, rfl⟩ : ∃ j, i = j + 1 := ⟨i - 1, by omega⟩
              have d0 : decide ((0 : Int) < (j : Int) + 1) = true := by simp <;> omega
              obtain ⟨b2, off2, e2, ht2⟩ := (unhide HTb).at j (by omega)
              cases e2
              have g4 := ht2.line
              have hpj : L[j].line = (cq : Nat) := unhide HPR (by simp; omega) hi0
              rw [hpj] at g4
              clear ht2 hpj
              have q9 : IntKind.i64.wrap (j : Int) = j := wrapId (by omega) (by omega)
              have b4 : decide (cp < cq) = false := by simp; omega
              go_wp2
              go_quiet (fail)
              go_wp2
              go_quiet (fail)
              go_wp2
              refine ⟨⟨j + 1 + 1, k + z, k, by omega, rfl, rfl, by rw [unhide HCP], by omega, by omega, fun h _ => ?_, ?_, ?_⟩, ?_⟩
              · have := (unhide HN).2.1
                rw [unhide HCP]
                exact this
              · exact (unhide HN).2.2
              · exact (unhide Xb).trans (((Ext.refl wB).alloc _).drewN _)
              · simp [intOf]
                omega
      · have hie : i = L.length := by omega
        subst hie
        rw [List.drop_of_length_le (Nat.le_refl _)] at hpl
        have hpl : lexP (s.data.toList.drop e) = ([], 0, 0) := hpl
        rename_i hpl0
        clear hpl0
        have HLx := lex_any (s.extract e s.size) wr m (unhide HMr)
        rw [ext_list2, hpl] at HLx
        have HLq := hide HLx
        clear HLx hpl
        go_wp2_with fail
        refine (unhide HLq).mono ?_
        rintro e' wB ⟨aoB, capB, rfl, _, hxB⟩
        have Xb := hide ((unhide X4).trans ((unhide X).trans hxB))
        clear hxB HLq
        go_wp2
        go_ret
        exact ⟨rfl, (unhide Xb).alloc _⟩
  · have he' : (R.2.1 == 0) = false := beq_eq_false_iff_ne.2 he
    go_wp2
    go_ret
    exact ⟨rfl, unhide X4⟩

theorem lexPlaces_owes (H : Type) (enc : TypeId × Value → H) (W : World) (base : Nat) (args : Array Value) (ds : List (DataW H)) (p : List MemPlace) : OwesH H enc Try.prog 8 Try.f8 Rows.lexPlacesSpec W base args ds p := by
  intro hval hA hsz hsh
  rw [Try.params8] at hA hval hsz
  obtain ⟨v0, vs0, d0, ds0, p0, q0, hargs, rfl, rfl, h0, r0⟩ := trodAll_cons hA
  obtain ⟨rfl, rfl, rfl⟩ := trodAll_nil r0
  obtain rfl : args = #[v0] := by cases args; simp_all
  obtain ⟨s, rfl, rfl, rfl, ws⟩ := open_string Try.underlying9 (hval 0 9 v0 rfl rfl) h0
  obtain ⟨m, hm⟩ := Try.laysM143.s1_3 W hsh
  exact ⟨⟨rfl, rfl, rfl⟩, lexPlaces_any s W m hm⟩

set_option maxRecDepth 100000 in
theorem lexPlaces_lifted (os : Os) (started : os.Started) (H : Type) (enc : TypeId × Value → H) :
    ReturnsInHanded {} Try.checked os 8 .any (Rows.lexPlacesSpec.pre6 enc Try.prog Try.f8 [] false) (Rows.lexPlacesSpec.post enc Try.prog Try.f8 false true false false) :=
  lift_law_shaped (C := Try.checked) own laidOut started (by kernel_rfl) Try.func8 (T := 4) rfl Try.underlying4 rfl (by kernel_rfl)
    (ChangeSpec.witness6 (enc := enc) (C := Try.checked) false ⟨#[], #[.string ⟨#[]⟩], []⟩ 8 (by kernel_rfl) (by kernel_rfl) (by kernel_rfl) (by kernel_rfl)) (lexPlaces_owes H enc)

theorem lexPlaces_holds : Rows.LexPlacesSaid :=
  OpenClaim.holds_of_wide 8 Try.f8 rfl rfl rfl rfl rfl rfl rfl ⟨rfl, rfl, rfl, rfl, rfl⟩ rfl rfl rfl rfl rfl (by kernel_rfl) Try.func8 (by kernel_rfl)
    (of_decide_eq_true (by kernel_rfl)) (by unfold Func.isWrapper; rw [if_neg (of_decide_eq_false (by kernel_rfl))]; exact ⟨rfl, rfl⟩)
    (fun os started H enc _ => lexPlaces_lifted os started H enc)
#print axioms lexPlaces_holds
end Go.Proofs.Ytgoldmohmjjngaa
