/-
  WHAT A VALID SIGNATURE SAYS OF ITS OPERATORS: mathematics alone.
-/
import Derived.Test.YtjejdcehlckfhaaGreatTsm
import Derived.Test.YtjejdcehlckfhaaGreatGram
namespace Go.Proofs.YtjejdcehlckfhaaGreat.tsa
open mem dec setm sets sortm sortn sortp sorti sortf sigm sigi sigj sigk sigv gram tsm

theorem op_mem' {O : List OpM} {k : Nat} (h : k < O.length) : O.getD k default ∈ O := by rw [List.getD_eq_getElem?_getD, List.getElem?_eq_getElem h]; exact List.getElem_mem _
theorem hd_ok' {P : List (List UInt8)} {Q : List (Int × Int)} {O : List OpM} (hok : sigOk P Q O = true) {k : Nat} (h : k < O.length) : okD P.length (hd0 (O.getD k default).decls) = true := by
  obtain ⟨_, _, _, hd, _⟩ := sigOk_parts hok
  exact (declsOk_parts (hd _ (op_mem' h))).2.2.2
theorem grM_ok' {P : List (List UInt8)} {Q : List (Int × Int)} {O : List OpM} (hok : sigOk P Q O = true) : grM P Q O = ⟨kindsU P Q, opsE O (shps (κU (kindsU P Q)) O)⟩ := by unfold grM; rw [if_pos hok]
theorem grE_at' {P : List (List UInt8)} {Q : List (Int × Int)} {O : List OpM} (hok : sigOk P Q O = true) {k : Nat} (h : k < O.length) : (grM P Q O).E.getD k default = (O.getD k default, k, shp (κU (kindsU P Q)) (hd0 (O.getD k default).decls)) := by
  rw [grM_ok' hok]
  show (opsE O _).getD k default = _
  rw [opsE_at O _ h, shps_get _ O k h]
theorem lim_clo {P : List (List UInt8)} {Q : List (Int × Int)} (h : okS P Q = true) : Lim (clo P.length (prs Q)) := by
  rw [← ordU_yes h]; exact ordU_lim P Q
/-- the declarations of a valid signature's operator -/
theorem declN {P : List (List UInt8)} {Q : List (Int × Int)} {O : List OpM} (hok : sigOk P Q O = true) {k : Nat} (hk : k < O.length) : DeclN P.length (ar (O.getD k default)) (O.getD k default).decls := by
  obtain ⟨_, _, _, hd, _⟩ := sigOk_parts hok
  obtain ⟨_, _, h3, h4⟩ := declsOk_parts (hd _ (op_mem' hk))
  intro d hdm
  obtain ⟨h5, h6⟩ := h3 d hdm
  obtain ⟨p1, p2, p3⟩ := okD_parts h5
  have hl : d.1.length = (hd0 (O.getD k default).decls).1.length := by
    have := congrArg (fun x => x.1.length) h6
    simpa [kD] using this
  exact ⟨hl, p2, fun j hj => p3 j (by rw [hl]; exact hj)⟩
theorem ar_two {P : List (List UInt8)} {Q : List (Int × Int)} {O : List OpM} (hok : sigOk P Q O = true) {k : Nat} (hk : k < O.length) (h : ((O.getD k default).ass || (O.getD k default).com) = true) : ar (O.getD k default) = 2 := by
  obtain ⟨_, _, _, _, hx⟩ := sigOk_parts hok
  have h4 := hx _ (op_mem' hk)
  simp only [axOk, argsOk, Bool.and_eq_true, Bool.or_eq_true, decide_eq_true_eq, Bool.not_eq_true'] at h4
  rcases h4.1 with h5 | h5
  · rw [h5.1.1, h5.1.2] at h; cases h
  · exact h5.1.1
theorem opE_at {P : List (List UInt8)} {Q : List (Int × Int)} {O : List OpM} (hok : sigOk P Q O = true) {k : Nat} (h : k < O.length) : ((grM P Q O).E.getD k default).1 = O.getD k default := by rw [grE_at' hok h]
theorem grE_len {P : List (List UInt8)} {Q : List (Int × Int)} {O : List OpM} (hok : sigOk P Q O = true) : (grM P Q O).E.length = O.length := by rw [grM_ok' hok]; exact opsE_len _ _
end Go.Proofs.YtjejdcehlckfhaaGreat.tsa
