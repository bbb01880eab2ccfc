/- Contract: the fraction laws' examples hold: 'works' answers true. -/
import Derived.Test.YtlfgpmnjnpdkdaaGreatDoorFrcA
import Derived.Deep.LoopGhost
import Derived.Deep.DeepCutAuto
import Derived.Great.BuildSlice
namespace Go.Proofs.YtlfgpmnjnpdkdaaGreatDoor
open Go.RowKit Vd
attribute [local go_sem ↓] Go.wp_at_zero Go.wp_at_succ
theorem infoFr2 : (Tryz.prog.info? 24).map (fun i => (i.zero,i.size,i.bytes)) = some (some (.agg #[.string ⟨#[]⟩,.string ⟨#[]⟩]),2,32) := by kernel_rfl
theorem bs3 (a1 a2 b1 b2 c1 c2 : ByteArray) (W : World) : (Instr.buildSlice 75 3 #[(0,.agg #[.string a1,.string a2]),(1,.agg #[.string b1,.string b2]),(2,.agg #[.string c1,.string c2])]).run Tryz.prog W = .ok (.slice (some ⟨W.heap.size,0,none⟩) 3 3) (W.alloc (.cells #[.string a1,.string a2,.string b1,.string b2,.string c1,.string c2] 24)) := by
 obtain ⟨i0,hi,hz0,hz1,hz2⟩ := info_parts infoFr2
 exact run_buildSlice W _ _ 3 _ _ i0 _ Tryz.underlying75 hi hz0 (by rw [hz1];decide) (by rw [hz1];decide) (by rw [hz1];kernel_rfl)
def lit3 (p : Array (Nat × Value)) : Sem Value := Instr.buildSlice 75 3 p
theorem lit3_eq (p : Array (Nat × Value)) : Instr.buildSlice 75 3 p = lit3 p := rfl
theorem lit3_run (a1 a2 b1 b2 c1 c2 : ByteArray) (W : World) : (lit3 #[(0,.agg #[.string a1,.string a2]),(1,.agg #[.string b1,.string b2]),(2,.agg #[.string c1,.string c2])]).run Tryz.prog W = .ok (.slice (some ⟨W.heap.size,0,none⟩) 3 3) (W.alloc (.cells #[.string a1,.string a2,.string b1,.string b2,.string c1,.string c2] 24)) := bs3 a1 a2 b1 b2 c1 c2 W
attribute [local go_sem ↓] lit3_eq
theorem sum_pack : ∃ (v1 v2 v3 : Value) (O : Obj),(∀ W,Gnd W → Calls Tryz.prog 42 #[.int .i64 1,.int .i64 2] W fun e w' => e = .returned v1 ∧ Below W.heap.size W w') ∧ (∀ W,Gnd W → Calls Tryz.prog 42 #[.int .i64 1,.int .i64 3] W fun e w' => e = .returned v2 ∧ Below W.heap.size W w') ∧ (∀ W,Gnd W → Calls Tryz.prog 42 #[.int .i64 1,.int .i64 6] W fun e w' => e = .returned v3 ∧ Below W.heap.size W w') ∧
    (∀ W : World,(lit3 #[(0,v1),(1,v2),(2,v3)]).run Tryz.prog W = .ok (.slice (some ⟨W.heap.size,0,none⟩) 3 3) (W.alloc O)) ∧ (∀ W : World,Calls Tryz.prog 51 #[.slice (some ⟨W.heap.size,0,none⟩) 3 3] (W.alloc O) fun e w' => e = .returned (.tuple #[.agg #[.string { data := #[49] },.string { data := #[49] }],.int .i64 0]) ∧ Below W.heap.size W w') :=
 ⟨_,_,_,_,fxq4,fxq6,fxq26,lit3_run _ _ _ _ _ _,fxsum3⟩
theorem chk_built (W : World) : (Instr.build 24 #[(0,.string { data := #[50] }),(1,.string { data := #[52] })]).run Tryz.prog W = .ok (.agg #[.string { data := #[50] },.string { data := #[52] }]) W :=
 run_build W _ _ _ (by kernel_rfl)
theorem ix0 (W : World) : (Instr.index 71 (.agg #[.string { data := #[48,48,55] },.string { data := #[49,46] },.string { data := #[45,48,46,48] }]) (.int .i64 0)).run Tryz.prog W = .ok (.string { data := #[48,48,55] }) W := by
 have h : Tryz.prog.underlying 71 = some (.array 3 9) := by kernel_rfl
 simp [Instr.index,run_underlying h,asIntOf,go_sem]
theorem ix1 (W : World) : (Instr.index 71 (.agg #[.string { data := #[48,48,55] },.string { data := #[49,46] },.string { data := #[45,48,46,48] }]) (.int .i64 1)).run Tryz.prog W = .ok (.string { data := #[49,46] }) W := by
 have h : Tryz.prog.underlying 71 = some (.array 3 9) := by kernel_rfl
 simp [Instr.index,run_underlying h,asIntOf,go_sem]
theorem ix2 (W : World) : (Instr.index 71 (.agg #[.string { data := #[48,48,55] },.string { data := #[49,46] },.string { data := #[45,48,46,48] }]) (.int .i64 2)).run Tryz.prog W = .ok (.string { data := #[45,48,46,48] }) W := by
 have h : Tryz.prog.underlying 71 = some (.array 3 9) := by kernel_rfl
 simp [Instr.index,run_underlying h,asIntOf,go_sem]
set_option maxRecDepth 100000 in
set_option maxHeartbeats 40000000 in
theorem fworks_any (w : World) (hg : Gnd w) :
    Calls Tryz.prog 7 #[] w fun e w' => e = .returned (.bool true) ∧ Below w.heap.size w w' := by
 have hS0 := Wk.start hg
 have hcb := chk_built
 clear hg
 go_enter Tryz.func7,Tryz.ntmps7
 go_upto_region 1 with fail
 go_cut [1] (fun s1 wx => s1 = .bool true ∧ Wk w wx)
 case first =>
  as_aux_lemma =>
   go_wp2_with fail
   refine (is2_any w _ _ _ hS0).mono ?_
   clear hS0
   rintro e w1 ⟨p1,q1,rfl,hc1,hd1,hS1⟩
   go_wp2_with fail
   refine (op_keep2 (fun W _ => fxof0 W) w _ hS1 _ _ _ _ hc1 hd1).mono ?_
   clear hc1 hd1 hS1
   rintro e w2 ⟨rfl,hc2,hd2,hS2⟩
   go_wp2_with fail
   refine (is2_fn w _ _ _ _ _ hc2 hd2 hS2).mono ?_
   clear hc2 hd2 hS2
   rintro e w3 ⟨rfl,hS3⟩
   go_wp2_with fail
   refine (is2_any w _ _ _ hS3).mono ?_
   clear hS3
   rintro e w4 ⟨p4,q4,rfl,hc4,hd4,hS4⟩
   go_wp2_with fail
   refine (op_keep2 (fun W _ => fxof1 W) w _ hS4 _ _ _ _ hc4 hd4).mono ?_
   clear hc4 hd4 hS4
   rintro e w5 ⟨rfl,hc5,hd5,hS5⟩
   go_wp2_with fail
   refine (is2_fn w _ _ _ _ _ hc5 hd5 hS5).mono ?_
   clear hc5 hd5 hS5
   rintro e w6 ⟨rfl,hS6⟩
   go_wp2_with fail
   refine (fails2_any w _ _ hS6).mono ?_
   clear hS6
   rintro e w7 ⟨p7,rfl,hc7,hS7⟩
   go_wp2_with fail
   refine (op_keep (fun W _ => fxof2 W) w _ hS7 _ _ hc7).mono ?_
   clear hc7 hS7
   rintro e w8 ⟨rfl,hc8,hS8⟩
   go_wp2_with fail
   refine (fails2_fn w _ _ _ hc8 hS8).mono ?_
   clear hc8 hS8
   rintro e w9 ⟨rfl,hS9⟩
   go_wp2_with fail
   refine (op_only fx1 w _ hS9).mono ?_
   clear hS9
   rintro e w10 ⟨rfl,hS10⟩
   go_wp2_with fail
   refine (is2_any w _ _ _ hS10).mono ?_
   clear hS10
   rintro e w11 ⟨p11,q11,rfl,hc11,hd11,hS11⟩
   go_wp2_with fail
   refine (op_keep2 fxq4 w _ hS11 _ _ _ _ hc11 hd11).mono ?_
   clear hc11 hd11 hS11
   rintro e w12 ⟨rfl,hc12,hd12,hS12⟩
   go_wp2_with fail
   refine (op_keep2 fxq6 w _ hS12 _ _ _ _ hc12 hd12).mono ?_
   clear hc12 hd12 hS12
   rintro e w13 ⟨rfl,hc13,hd13,hS13⟩
   go_wp2_with fail
   refine (op_keep2 fx2 w _ hS13 _ _ _ _ hc13 hd13).mono ?_
   clear hc13 hd13 hS13
   rintro e w14 ⟨rfl,hc14,hd14,hS14⟩
   go_wp2_with fail
   refine (is2_fn w _ _ _ _ _ hc14 hd14 hS14).mono ?_
   clear hc14 hd14 hS14
   rintro e w15 ⟨rfl,hS15⟩
   go_wp2_with fail
   refine (is2_any w _ _ _ hS15).mono ?_
   clear hS15
   rintro e w16 ⟨p16,q16,rfl,hc16,hd16,hS16⟩
   go_wp2_with fail
   refine (op_keep2 fxq4 w _ hS16 _ _ _ _ hc16 hd16).mono ?_
   clear hc16 hd16 hS16
   rintro e w17 ⟨rfl,hc17,hd17,hS17⟩
   go_wp2_with fail
   refine (op_keep2 fxq4 w _ hS17 _ _ _ _ hc17 hd17).mono ?_
   clear hc17 hd17 hS17
   rintro e w18 ⟨rfl,hc18,hd18,hS18⟩
   go_wp2_with fail
   refine (op_keep2 fx3 w _ hS18 _ _ _ _ hc18 hd18).mono ?_
   clear hc18 hd18 hS18
   rintro e w19 ⟨rfl,hc19,hd19,hS19⟩
   go_wp2_with fail
   refine (is2_fn w _ _ _ _ _ hc19 hd19 hS19).mono ?_
   clear hc19 hd19 hS19
   rintro e w20 ⟨rfl,hS20⟩
   go_wp2_with fail
   refine (is2_any w _ _ _ hS20).mono ?_
   clear hS20
   rintro e w21 ⟨p21,q21,rfl,hc21,hd21,hS21⟩
   go_wp2_with fail
   refine (op_keep2 fxq8 w _ hS21 _ _ _ _ hc21 hd21).mono ?_
   clear hc21 hd21 hS21
   rintro e w22 ⟨rfl,hc22,hd22,hS22⟩
   go_wp2_with fail
   refine (op_keep2 fxq10 w _ hS22 _ _ _ _ hc22 hd22).mono ?_
   clear hc22 hd22 hS22
   rintro e w23 ⟨rfl,hc23,hd23,hS23⟩
   go_wp2_with fail
   refine (op_keep2 fx4 w _ hS23 _ _ _ _ hc23 hd23).mono ?_
   clear hc23 hd23 hS23
   rintro e w24 ⟨rfl,hc24,hd24,hS24⟩
   go_wp2_with fail
   refine (is2_fn w _ _ _ _ _ hc24 hd24 hS24).mono ?_
   clear hc24 hd24 hS24
   rintro e w25 ⟨rfl,hS25⟩
   go_wp2_with fail
   refine (is2_any w _ _ _ hS25).mono ?_
   clear hS25
   rintro e w26 ⟨p26,q26,rfl,hc26,hd26,hS26⟩
   go_wp2_with fail
   refine (op_keep2 fxq12 w _ hS26 _ _ _ _ hc26 hd26).mono ?_
   clear hc26 hd26 hS26
   rintro e w27 ⟨rfl,hc27,hd27,hS27⟩
   go_wp2_with fail
   refine (op_keep2 fxq8 w _ hS27 _ _ _ _ hc27 hd27).mono ?_
   clear hc27 hd27 hS27
   rintro e w28 ⟨rfl,hc28,hd28,hS28⟩
   go_wp2_with fail
   refine (op_keep2 fx5 w _ hS28 _ _ _ _ hc28 hd28).mono ?_
   clear hc28 hd28 hS28
   rintro e w29 ⟨rfl,hc29,hd29,hS29⟩
   go_wp2_with fail
   refine (is2_fn w _ _ _ _ _ hc29 hd29 hS29).mono ?_
   clear hc29 hd29 hS29
   rintro e w30 ⟨rfl,hS30⟩
   go_wp2_with fail
   go_meet
   exact ⟨rfl,hS30⟩
 case rest =>
  obtain ⟨rfl,hR1⟩ := hcut
  go_upto_region 2 with fail
  go_cut [1] (fun s1 wx => s1 = .bool true ∧ Wk w wx)
  case first =>
   as_aux_lemma =>
    go_wp2_with fail
    refine (fails2_any w _ _ hR1).mono ?_
    clear hR1
    rintro e w31 ⟨p31,rfl,hc31,hS31⟩
    go_wp2_with fail
    refine (op_keep fxq12 w _ hS31 _ _ hc31).mono ?_
    clear hc31 hS31
    rintro e w32 ⟨rfl,hc32,hS32⟩
    go_wp2_with fail
    refine (op_keep fxq14 w _ hS32 _ _ hc32).mono ?_
    clear hc32 hS32
    rintro e w33 ⟨rfl,hc33,hS33⟩
    go_wp2_with fail
    refine (op_keep fx6 w _ hS33 _ _ hc33).mono ?_
    clear hc33 hS33
    rintro e w34 ⟨rfl,hc34,hS34⟩
    go_wp2_with fail
    refine (fails2_fn w _ _ _ hc34 hS34).mono ?_
    clear hc34 hS34
    rintro e w35 ⟨rfl,hS35⟩
    go_wp2_with fail
    refine (says2_any w _ _ hS35).mono ?_
    clear hS35
    rintro e w36 ⟨p36,rfl,hc36,hS36⟩
    go_wp2_with fail
    refine (op_keep fxq6 w _ hS36 _ _ hc36).mono ?_
    clear hc36 hS36
    rintro e w37 ⟨rfl,hc37,hS37⟩
    go_wp2_with fail
    refine (op_keep fxq4 w _ hS37 _ _ hc37).mono ?_
    clear hc37 hS37
    rintro e w38 ⟨rfl,hc38,hS38⟩
    go_wp2_with fail
    refine (op_keep fx7 w _ hS38 _ _ hc38).mono ?_
    clear hc38 hS38
    rintro e w39 ⟨rfl,hc39,hS39⟩
    go_wp2_with fail
    refine (says2_fn _ _ _ hc39).mono ?_
    clear hc39
    rintro e w0 ⟨rfl,rfl⟩
    go_wp2_with fail
    refine (is2_any w _ _ _ hS39).mono ?_
    clear hS39
    rintro e w40 ⟨p40,q40,rfl,hc40,hd40,hS40⟩
    go_wp2_with fail
    refine (op_keep2 fxq10 w _ hS40 _ _ _ _ hc40 hd40).mono ?_
    clear hc40 hd40 hS40
    rintro e w41 ⟨rfl,hc41,hd41,hS41⟩
    go_wp2_with fail
    refine (op_keep2 fxq14 w _ hS41 _ _ _ _ hc41 hd41).mono ?_
    clear hc41 hd41 hS41
    rintro e w42 ⟨rfl,hc42,hd42,hS42⟩
    go_wp2_with fail
    refine (op_keep2 fxq12 w _ hS42 _ _ _ _ hc42 hd42).mono ?_
    clear hc42 hd42 hS42
    rintro e w43 ⟨rfl,hc43,hd43,hS43⟩
    go_wp2_with fail
    refine (op_keep2 fx8 w _ hS43 _ _ _ _ hc43 hd43).mono ?_
    clear hc43 hd43 hS43
    rintro e w44 ⟨rfl,hc44,hd44,hS44⟩
    go_wp2_with fail
    refine (is2_fn w _ _ _ _ _ hc44 hd44 hS44).mono ?_
    clear hc44 hd44 hS44
    rintro e w45 ⟨rfl,hS45⟩
    go_wp2_with fail
    refine (fails2_any w _ _ hS45).mono ?_
    clear hS45
    rintro e w46 ⟨p46,rfl,hc46,hS46⟩
    go_wp2_with fail
    refine (op_keep fxq14 w _ hS46 _ _ hc46).mono ?_
    clear hc46 hS46
    rintro e w47 ⟨rfl,hc47,hS47⟩
    go_wp2_with fail
    refine (op_keep fxq12 w _ hS47 _ _ hc47).mono ?_
    clear hc47 hS47
    rintro e w48 ⟨rfl,hc48,hS48⟩
    go_wp2_with fail
    refine (op_keep fxq14 w _ hS48 _ _ hc48).mono ?_
    clear hc48 hS48
    rintro e w49 ⟨rfl,hc49,hS49⟩
    go_wp2_with fail
    refine (op_keep fx9 w _ hS49 _ _ hc49).mono ?_
    clear hc49 hS49
    rintro e w50 ⟨rfl,hc50,hS50⟩
    go_wp2_with fail
    refine (fails2_fn w _ _ _ hc50 hS50).mono ?_
    clear hc50 hS50
    rintro e w51 ⟨rfl,hS51⟩
    go_wp2_with fail
    go_meet
    exact ⟨rfl,hS51⟩
  case rest =>
   obtain ⟨rfl,hR2⟩ := hcut
   go_upto_region 3 with fail
   go_cut [1,2,3] (fun s1 s2 s3 wx => s1 = .bool true ∧ s2 = .string { data := #[45,49] } ∧ s3 = .int .i64 0 ∧ Wk w wx)
   case first =>
    as_aux_lemma =>
     go_wp2_with fail
     refine (op_only fxq16 w _ hR2).mono ?_
     clear hR2
     rintro e w52 ⟨rfl,hS52⟩
     go_wp2_with fail
     refine (op_only fx10 w _ hS52).mono ?_
     clear hS52
     rintro e w53 ⟨rfl,hS53⟩
     go_wp2_with fail
     go_meet
     exact ⟨rfl,rfl,rfl,hS53⟩
   case rest =>
    obtain ⟨rfl,rfl,rfl,hR3⟩ := hcut
    go_upto_region 4 with fail
    go_cut [1] (fun s1 wx => s1 = .bool true ∧ Wk w wx)
    case first =>
     as_aux_lemma =>
      go_wp2_with fail
      refine (says2_any w _ _ hR3).mono ?_
      clear hR3
      rintro e w54 ⟨p54,rfl,hc54,hS54⟩
      go_wp2_with fail
      refine (op_keep fxq4 w _ hS54 _ _ hc54).mono ?_
      clear hc54 hS54
      rintro e w55 ⟨rfl,hc55,hS55⟩
      go_wp2_with fail
      refine (op_keep fx11 w _ hS55 _ _ hc55).mono ?_
      clear hc55 hS55
      rintro e w56 ⟨rfl,hc56,hS56⟩
      go_wp2_with fail
      refine (says2_fn _ _ _ hc56).mono ?_
      clear hc56
      rintro e w0 ⟨rfl,rfl⟩
      go_wp2_with fail
      refine (says2_any w _ _ hS56).mono ?_
      clear hS56
      rintro e w57 ⟨p57,rfl,hc57,hS57⟩
      go_wp2_with fail
      refine (op_keep fxq16 w _ hS57 _ _ hc57).mono ?_
      clear hc57 hS57
      rintro e w58 ⟨rfl,hc58,hS58⟩
      go_wp2_with fail
      refine (op_keep fx12 w _ hS58 _ _ hc58).mono ?_
      clear hc58 hS58
      rintro e w59 ⟨rfl,hc59,hS59⟩
      go_wp2_with fail
      refine (says2_fn _ _ _ hc59).mono ?_
      clear hc59
      rintro e w0 ⟨rfl,rfl⟩
      go_wp2_with fail
      refine (says2_any w _ _ hS59).mono ?_
      clear hS59
      rintro e w60 ⟨p60,rfl,hc60,hS60⟩
      go_wp2_with fail
      refine (op_keep fxq18 w _ hS60 _ _ hc60).mono ?_
      clear hc60 hS60
      rintro e w61 ⟨rfl,hc61,hS61⟩
      go_wp2_with fail
      refine (op_keep fx13 w _ hS61 _ _ hc61).mono ?_
      clear hc61 hS61
      rintro e w62 ⟨rfl,hc62,hS62⟩
      go_wp2_with fail
      refine (says2_fn _ _ _ hc62).mono ?_
      clear hc62
      rintro e w0 ⟨rfl,rfl⟩
      go_wp2_with fail
      refine (stops2_any w _ _ hS62).mono ?_
      clear hS62
      rintro e w63 ⟨p63,rfl,hc63,hS63⟩
      go_wp2_with fail
      refine (op_keep fxq12 w _ hS63 _ _ hc63).mono ?_
      clear hc63 hS63
      rintro e w64 ⟨rfl,hc64,hS64⟩
      go_wp2_with fail
      refine (op_keep fx14 w _ hS64 _ _ hc64).mono ?_
      clear hc64 hS64
      rintro e w65 ⟨rfl,hc65,hS65⟩
      go_wp2_with fail
      refine (stops2_fn _ _ _ hc65).mono ?_
      clear hc65
      rintro e w0 ⟨rfl,rfl⟩
      go_wp2_with fail
      go_meet
      exact ⟨rfl,hS65⟩
    case rest =>
     obtain ⟨rfl,hR4⟩ := hcut
     go_upto_region 5 with fail
     go_cut [1] (fun s1 wx => s1 = .bool true ∧ Wk w wx)
     case first =>
      as_aux_lemma =>
       go_wp2_with fail
       refine (tells2_any w _ _ hR4).mono ?_
       clear hR4
       rintro e w66 ⟨p66,rfl,hc66,hS66⟩
       go_wp2_with fail
       refine (op_keep fxq20 w _ hS66 _ _ hc66).mono ?_
       clear hc66 hS66
       rintro e w67 ⟨rfl,hc67,hS67⟩
       go_wp2_with fail
       refine (op_keep fx15 w _ hS67 _ _ hc67).mono ?_
       clear hc67 hS67
       rintro e w68 ⟨rfl,hc68,hS68⟩
       go_wp2_with fail
       refine (tells2_fn _ _ _ hc68).mono ?_
       clear hc68
       rintro e w0 ⟨rfl,rfl⟩
       go_wp2_with fail
       refine (tells2_any w _ _ hS68).mono ?_
       clear hS68
       rintro e w69 ⟨p69,rfl,hc69,hS69⟩
       go_wp2_with fail
       refine (op_keep fxq6 w _ hS69 _ _ hc69).mono ?_
       clear hc69 hS69
       rintro e w70 ⟨rfl,hc70,hS70⟩
       go_wp2_with fail
       refine (op_keep fx16 w _ hS70 _ _ hc70).mono ?_
       clear hc70 hS70
       rintro e w71 ⟨rfl,hc71,hS71⟩
       go_wp2_with fail
       refine (tells2_fn _ _ _ hc71).mono ?_
       clear hc71
       rintro e w0 ⟨rfl,rfl⟩
       go_wp2_with fail
       refine (tells2_any w _ _ hS71).mono ?_
       clear hS71
       rintro e w72 ⟨p72,rfl,hc72,hS72⟩
       go_wp2_with fail
       refine (op_keep fxq22 w _ hS72 _ _ hc72).mono ?_
       clear hc72 hS72
       rintro e w73 ⟨rfl,hc73,hS73⟩
       go_wp2_with fail
       refine (op_keep fx17 w _ hS73 _ _ hc73).mono ?_
       clear hc73 hS73
       rintro e w74 ⟨rfl,hc74,hS74⟩
       go_wp2_with fail
       refine (tells2_fn _ _ _ hc74).mono ?_
       clear hc74
       rintro e w0 ⟨rfl,rfl⟩
       go_wp2_with fail
       refine (tells2_any w _ _ hS74).mono ?_
       clear hS74
       rintro e w75 ⟨p75,rfl,hc75,hS75⟩
       go_wp2_with fail
       refine (op_keep fxq24 w _ hS75 _ _ hc75).mono ?_
       clear hc75 hS75
       rintro e w76 ⟨rfl,hc76,hS76⟩
       go_wp2_with fail
       refine (op_keep fx18 w _ hS76 _ _ hc76).mono ?_
       clear hc76 hS76
       rintro e w77 ⟨rfl,hc77,hS77⟩
       go_wp2_with fail
       refine (tells2_fn _ _ _ hc77).mono ?_
       clear hc77
       rintro e w0 ⟨rfl,rfl⟩
       go_wp2_with fail
       go_meet
       exact ⟨rfl,hS77⟩
     case rest =>
      obtain ⟨rfl,hR5⟩ := hcut
      have hix0 := ix0
      have hix1 := ix1
      have hix2 := ix2
      go_wp2_with fail
      go_loopg [185] 3 (fun r iv W => ∃ i : Nat,r = 3 - i ∧ iv = .int .i64 (i : Int) ∧ i ≤ 3 ∧ Wk w W)
      case atStart => exact ⟨0,rfl,rfl,by omega,hR5⟩
      case round =>
       obtain ⟨i,rfl,rfl,hi,hL⟩ := hrel
       rcases (show i = 0 ∨ i = 1 ∨ i = 2 ∨ i = 3 by omega) with rfl | rfl | rfl | rfl
       · as_aux_lemma =>
          go_wp2_with fail
          refine (fails2_any w _ _ hL).mono ?_
          clear hL
          rintro e w78 ⟨p78,rfl,hc78,hS78⟩
          go_wp2_with fail
          refine (op_keep fx19 w _ hS78 _ _ hc78).mono ?_
          clear hc78 hS78
          rintro e w79 ⟨rfl,hc79,hS79⟩
          go_wp2_with fail
          refine (fails2_fn w _ _ _ hc79 hS79).mono ?_
          clear hc79 hS79
          rintro e w80 ⟨rfl,hS80⟩
          go_wp2_with fail
          go_roundg (3 - 1)
          case measure => omega
          case rel => exact ⟨1,rfl,rfl,by omega,hS80⟩
       · as_aux_lemma =>
          go_wp2_with fail
          refine (fails2_any w _ _ hL).mono ?_
          clear hL
          rintro e w81 ⟨p81,rfl,hc81,hS81⟩
          go_wp2_with fail
          refine (op_keep fx20 w _ hS81 _ _ hc81).mono ?_
          clear hc81 hS81
          rintro e w82 ⟨rfl,hc82,hS82⟩
          go_wp2_with fail
          refine (fails2_fn w _ _ _ hc82 hS82).mono ?_
          clear hc82 hS82
          rintro e w83 ⟨rfl,hS83⟩
          go_wp2_with fail
          go_roundg (3 - 2)
          case measure => omega
          case rel => exact ⟨2,rfl,rfl,by omega,hS83⟩
       · as_aux_lemma =>
          go_wp2_with fail
          refine (fails2_any w _ _ hL).mono ?_
          clear hL
          rintro e w84 ⟨p84,rfl,hc84,hS84⟩
          go_wp2_with fail
          refine (op_keep fx21 w _ hS84 _ _ hc84).mono ?_
          clear hc84 hS84
          rintro e w85 ⟨rfl,hc85,hS85⟩
          go_wp2_with fail
          refine (fails2_fn w _ _ _ hc85 hS85).mono ?_
          clear hc85 hS85
          rintro e w86 ⟨rfl,hS86⟩
          go_wp2_with fail
          go_roundg (3 - 3)
          case measure => omega
          case rel => exact ⟨3,rfl,rfl,by omega,hS86⟩
       · as_aux_lemma =>
          go_wp2_with fail
          refine (is2_any w _ _ _ hL).mono ?_
          clear hL
          rintro e w87 ⟨p87,q87,rfl,hc87,hd87,hS87⟩
          go_wp2_with fail
          refine (op_keep2 fx22 w _ hS87 _ _ _ _ hc87 hd87).mono ?_
          clear hc87 hd87 hS87
          rintro e w88 ⟨rfl,hc88,hd88,hS88⟩
          go_wp2_with fail
          refine (is2_fn w _ _ _ _ _ hc88 hd88 hS88).mono ?_
          clear hc88 hd88 hS88
          rintro e w89 ⟨rfl,hS89⟩
          go_wp2_with fail
          refine (is2_any w _ _ _ hS89).mono ?_
          clear hS89
          rintro e w90 ⟨p90,q90,rfl,hc90,hd90,hS90⟩
          go_wp2_with fail
          refine (op_keep2 fx23 w _ hS90 _ _ _ _ hc90 hd90).mono ?_
          clear hc90 hd90 hS90
          rintro e w91 ⟨rfl,hc91,hd91,hS91⟩
          go_wp2_with fail
          refine (is2_fn w _ _ _ _ _ hc91 hd91 hS91).mono ?_
          clear hc91 hd91 hS91
          rintro e w92 ⟨rfl,hS92⟩
          go_wp2_with fail
          refine (is2_any w _ _ _ hS92).mono ?_
          clear hS92
          rintro e w93 ⟨p93,q93,rfl,hc93,hd93,hS93⟩
          go_wp2_with fail
          refine (op_keep2 fxq8 w _ hS93 _ _ _ _ hc93 hd93).mono ?_
          clear hc93 hd93 hS93
          rintro e w94 ⟨rfl,hc94,hd94,hS94⟩
          go_wp2_with fail
          refine (op_keep2 fx24 w _ hS94 _ _ _ _ hc94 hd94).mono ?_
          clear hc94 hd94 hS94
          rintro e w95 ⟨rfl,hc95,hd95,hS95⟩
          go_wp2_with fail
          refine (is2_fn w _ _ _ _ _ hc95 hd95 hS95).mono ?_
          clear hc95 hd95 hS95
          rintro e w96 ⟨rfl,hS96⟩
          go_wp2_with fail
          refine (is2_any w _ _ _ hS96).mono ?_
          clear hS96
          rintro e w97 ⟨p97,q97,rfl,hc97,hd97,hS97⟩
          go_wp2_with fail
          refine (op_keep2 fxq14 w _ hS97 _ _ _ _ hc97 hd97).mono ?_
          clear hc97 hd97 hS97
          rintro e w98 ⟨rfl,hc98,hd98,hS98⟩
          go_wp2_with fail
          refine (op_keep2 fx25 w _ hS98 _ _ _ _ hc98 hd98).mono ?_
          clear hc98 hd98 hS98
          rintro e w99 ⟨rfl,hc99,hd99,hS99⟩
          go_wp2_with fail
          refine (is2_fn w _ _ _ _ _ hc99 hd99 hS99).mono ?_
          clear hc99 hd99 hS99
          rintro e w100 ⟨rfl,hS100⟩
          obtain ⟨v1,v2,v3,O,k1,k2,k3,hlit,hsum⟩ := sum_pack
          have K1 := Lib.hid k1
          have K2 := Lib.hid k2
          have K3 := Lib.hid k3
          have K4 := Lib.hid hsum
          clear k1 k2 k3 hsum
          go_wp2_with fail
          refine (is2_any w _ _ _ hS100).mono ?_
          clear hS100
          rintro e w101 ⟨p101,q101,rfl,hc101,hd101,hS101⟩
          go_wp2_with fail
          refine (op_keep2 K1.out w _ hS101 _ _ _ _ hc101 hd101).mono ?_
          clear hc101 hd101 hS101
          rintro e w102 ⟨rfl,hc102,hd102,hS102⟩
          go_wp2_with fail
          refine (op_keep2 K2.out w _ hS102 _ _ _ _ hc102 hd102).mono ?_
          clear hc102 hd102 hS102
          rintro e w103 ⟨rfl,hc103,hd103,hS103⟩
          go_wp2_with fail
          refine (op_keep2 K3.out w _ hS103 _ _ _ _ hc103 hd103).mono ?_
          clear hc103 hd103 hS103
          rintro e w104 ⟨rfl,hc104,hd104,hS104⟩
          go_wp2_with fail
          refine (op_keep2w (K4.out _) w hS104 _ _ _ _ hc104 hd104).mono ?_
          clear hc104 hd104 hS104
          rintro e w105 ⟨rfl,hc105,hd105,hS105⟩
          go_wp2_with fail
          refine (is2_fn w _ _ _ _ _ hc105 hd105 hS105).mono ?_
          clear hc105 hd105 hS105
          rintro e w106 ⟨rfl,hS106⟩
          go_wp2_with fail
          refine (is2_any w _ _ _ hS106).mono ?_
          clear hS106
          rintro e w107 ⟨p107,q107,rfl,hc107,hd107,hS107⟩
          go_wp2_with fail
          refine (op_keep2 fx26 w _ hS107 _ _ _ _ hc107 hd107).mono ?_
          clear hc107 hd107 hS107
          rintro e w108 ⟨rfl,hc108,hd108,hS108⟩
          go_wp2_with fail
          refine (is2_fn w _ _ _ _ _ hc108 hd108 hS108).mono ?_
          clear hc108 hd108 hS108
          rintro e w109 ⟨rfl,hS109⟩
          go_wp2_with fail
          go_ret
          exact ⟨rfl,hS109.1⟩
end Go.Proofs.YtlfgpmnjnpdkdaaGreatDoor
