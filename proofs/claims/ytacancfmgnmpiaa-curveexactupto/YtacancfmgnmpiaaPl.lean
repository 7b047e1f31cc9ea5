import Derived.Test.YtacancfmgnmpiaaPrm
set_option linter.unusedVariables false
set_option linter.unusedSimpArgs false
/-! The orders of the base point and of the twist are prime (but for 8 and 4). -/
namespace Prm
theorem pr11 : Pr 11 := trial_ok 11 2 (by decide) (by decide) (by decide +kernel)
theorem pr23 : Pr 23 := trial_ok 23 3 (by decide) (by decide) (by decide +kernel)
theorem pr41 : Pr 41 := trial_ok 41 5 (by decide) (by decide) (by decide +kernel)
theorem pr43 : Pr 43 := trial_ok 43 5 (by decide) (by decide) (by decide +kernel)
theorem pr73 : Pr 73 := trial_ok 73 7 (by decide) (by decide) (by decide +kernel)
theorem pr79 : Pr 79 := trial_ok 79 7 (by decide) (by decide) (by decide +kernel)
theorem pr181 : Pr 181 := trial_ok 181 12 (by decide) (by decide) (by decide +kernel)
theorem pr269 : Pr 269 := trial_ok 269 15 (by decide) (by decide) (by decide +kernel)
theorem pr307 : Pr 307 := trial_ok 307 16 (by decide) (by decide) (by decide +kernel)
theorem pr383 : Pr 383 := trial_ok 383 18 (by decide) (by decide) (by decide +kernel)
theorem pr467 : Pr 467 := trial_ok 467 20 (by decide) (by decide) (by decide +kernel)
theorem pr487 : Pr 487 := trial_ok 487 21 (by decide) (by decide) (by decide +kernel)
theorem pr1361 : Pr 1361 := trial_ok 1361 35 (by decide) (by decide) (by decide +kernel)
theorem pr2281 : Pr 2281 := trial_ok 2281 46 (by decide) (by decide) (by decide +kernel)
theorem pr2851 : Pr 2851 := trial_ok 2851 52 (by decide) (by decide) (by decide +kernel)
theorem pr3637 : Pr 3637 := trial_ok 3637 59 (by decide) (by decide) (by decide +kernel)
theorem pr3911 : Pr 3911 := trial_ok 3911 61 (by decide) (by decide) (by decide +kernel)
theorem pr4363 : Pr 4363 := trial_ok 4363 65 (by decide) (by decide) (by decide +kernel)
theorem pr5879 : Pr 5879 := trial_ok 5879 75 (by decide) (by decide) (by decide +kernel)
theorem pr8053 : Pr 8053 := trial_ok 8053 88 (by decide) (by decide) (by decide +kernel)
theorem pr11351 : Pr 11351 := trial_ok 11351 105 (by decide) (by decide) (by decide +kernel)
theorem pr12527 : Pr 12527 := trial_ok 12527 110 (by decide) (by decide) (by decide +kernel)
theorem pr28859 : Pr 28859 := trial_ok 28859 168 (by decide) (by decide) (by decide +kernel)
theorem pr30703 : Pr 30703 := trial_ok 30703 174 (by decide) (by decide) (by decide +kernel)
theorem pr82163 : Pr 82163 := trial_ok 82163 285 (by decide) (by decide) (by decide +kernel)
theorem pr117223 : Pr 117223 := trial_ok 117223 341 (by decide) (by decide) (by decide +kernel)
theorem pr132667 : Pr 132667 := trial_ok 132667 363 (by decide) (by decide) (by decide +kernel)
theorem pr137849 : Pr 137849 := trial_ok 137849 370 (by decide) (by decide) (by decide +kernel)
theorem pr531581 : Pr 531581 := trial_ok 531581 728 (by decide) (by decide) (by decide +kernel)
theorem pr727169 : Pr 727169 := trial_ok 727169 851 (by decide) (by decide) (by decide +kernel)
theorem pr1224481 : Pr 1224481 := trial_ok 1224481 1105 (by decide) (by decide) (by decide +kernel)
theorem pr6418733 : Pr 6418733 := trial_ok 6418733 2532 (by decide) (by decide) (by decide +kernel)
theorem pr14741173 : Pr 14741173 := trial_ok 14741173 3838 (by decide) (by decide) (by decide +kernel)
theorem pr58964693 : Pr 58964693 :=
  (lucas_by (g := 2) (k := 26) (by decide) [(2, 2), (14741173, 1)] (fun x hx => by
    simp only [List.mem_cons, List.not_mem_nil, or_false] at hx
    rcases hx with rfl | rfl
    · exact pr2
    · exact pr14741173
    ) (by decide) (by decide +kernel) (by decide +kernel) (by decide +kernel)).1
theorem pr292386187 : Pr 292386187 :=
  (lucas_by (g := 2) (k := 29) (by decide) [(2, 1), (3, 4), (307, 1), (5879, 1)] (fun x hx => by
    simp only [List.mem_cons, List.not_mem_nil, or_false] at hx
    rcases hx with rfl | rfl | rfl | rfl
    · exact pr2
    · exact pr3
    · exact pr307
    · exact pr5879
    ) (by decide) (by decide +kernel) (by decide +kernel) (by decide +kernel)).1
theorem pr743104567 : Pr 743104567 :=
  (lucas_by (g := 6) (k := 30) (by decide) [(2, 1), (3, 2), (3637, 1), (11351, 1)] (fun x hx => by
    simp only [List.mem_cons, List.not_mem_nil, or_false] at hx
    rcases hx with rfl | rfl | rfl | rfl
    · exact pr2
    · exact pr3
    · exact pr3637
    · exact pr11351
    ) (by decide) (by decide +kernel) (by decide +kernel) (by decide +kernel)).1
theorem pr1110318119 : Pr 1110318119 :=
  (lucas_by (g := 7) (k := 31) (by decide) [(2, 1), (7, 1), (13, 1), (487, 1), (12527, 1)] (fun x hx => by
    simp only [List.mem_cons, List.not_mem_nil, or_false] at hx
    rcases hx with rfl | rfl | rfl | rfl | rfl
    · exact pr2
    · exact pr7
    · exact pr13
    · exact pr487
    · exact pr12527
    ) (by decide) (by decide +kernel) (by decide +kernel) (by decide +kernel)).1
theorem pr2220636239 : Pr 2220636239 :=
  (lucas_by (g := 23) (k := 32) (by decide) [(2, 1), (1110318119, 1)] (fun x hx => by
    simp only [List.mem_cons, List.not_mem_nil, or_false] at hx
    rcases hx with rfl | rfl
    · exact pr2
    · exact pr1110318119
    ) (by decide) (by decide +kernel) (by decide +kernel) (by decide +kernel)).1
theorem pr213441916511 : Pr 213441916511 :=
  (lucas_by (g := 13) (k := 38) (by decide) [(2, 1), (5, 1), (73, 1), (292386187, 1)] (fun x hx => by
    simp only [List.mem_cons, List.not_mem_nil, or_false] at hx
    rcases hx with rfl | rfl | rfl | rfl
    · exact pr2
    · exact pr5
    · exact pr73
    · exact pr292386187
    ) (by decide) (by decide +kernel) (by decide +kernel) (by decide +kernel)).1
theorem pr1013266244677 : Pr 1013266244677 :=
  (lucas_by (g := 2) (k := 40) (by decide) [(2, 2), (3, 1), (7, 1), (383, 1), (3911, 1), (8053, 1)] (fun x hx => by
    simp only [List.mem_cons, List.not_mem_nil, or_false] at hx
    rcases hx with rfl | rfl | rfl | rfl | rfl | rfl
    · exact pr2
    · exact pr3
    · exact pr7
    · exact pr383
    · exact pr3911
    · exact pr8053
    ) (by decide) (by decide +kernel) (by decide +kernel) (by decide +kernel)).1
theorem pr5171003929967 : Pr 5171003929967 :=
  (lucas_by (g := 5) (k := 43) (by decide) [(2, 1), (7, 1), (31, 1), (181, 1), (2281, 1), (28859, 1)] (fun x hx => by
    simp only [List.mem_cons, List.not_mem_nil, or_false] at hx
    rcases hx with rfl | rfl | rfl | rfl | rfl | rfl
    · exact pr2
    · exact pr7
    · exact pr31
    · exact pr181
    · exact pr2281
    · exact pr28859
    ) (by decide) (by decide +kernel) (by decide +kernel) (by decide +kernel)).1
theorem pr1257559732178653 : Pr 1257559732178653 :=
  (lucas_by (g := 2) (k := 51) (by decide) [(2, 2), (3, 1), (7, 1), (23, 1), (531581, 1), (1224481, 1)] (fun x hx => by
    simp only [List.mem_cons, List.not_mem_nil, or_false] at hx
    rcases hx with rfl | rfl | rfl | rfl | rfl | rfl
    · exact pr2
    · exact pr3
    · exact pr7
    · exact pr23
    · exact pr531581
    · exact pr1224481
    ) (by decide) (by decide +kernel) (by decide +kernel) (by decide +kernel)).1
theorem pr4434155615661930479 : Pr 4434155615661930479 :=
  (lucas_by (g := 17) (k := 62) (by decide) [(2, 1), (41, 1), (43, 1), (1257559732178653, 1)] (fun x hx => by
    simp only [List.mem_cons, List.not_mem_nil, or_false] at hx
    rcases hx with rfl | rfl | rfl | rfl
    · exact pr2
    · exact pr41
    · exact pr43
    · exact pr1257559732178653
    ) (by decide) (by decide +kernel) (by decide +kernel) (by decide +kernel)).1
theorem pr22561162540501040539 : Pr 22561162540501040539 :=
  (lucas_by (g := 3) (k := 65) (by decide) [(2, 1), (3, 1), (727169, 1), (5171003929967, 1)] (fun x hx => by
    simp only [List.mem_cons, List.not_mem_nil, or_false] at hx
    rcases hx with rfl | rfl | rfl | rfl
    · exact pr2
    · exact pr3
    · exact pr727169
    · exact pr5171003929967
    ) (by decide) (by decide +kernel) (by decide +kernel) (by decide +kernel)).1
theorem pr3044861653679985063343 : Pr 3044861653679985063343 :=
  (lucas_by (g := 5) (k := 72) (by decide) [(2, 1), (3, 1), (11, 1), (30703, 1), (82163, 1), (132667, 1), (137849, 1)] (fun x hx => by
    simp only [List.mem_cons, List.not_mem_nil, or_false] at hx
    rcases hx with rfl | rfl | rfl | rfl | rfl | rfl | rfl
    · exact pr2
    · exact pr3
    · exact pr11
    · exact pr30703
    · exact pr82163
    · exact pr132667
    · exact pr137849
    ) (by decide) (by decide +kernel) (by decide +kernel) (by decide +kernel)).1
theorem pr172054593956031949258510691 : Pr 172054593956031949258510691 :=
  (lucas_by (g := 2) (k := 88) (by decide) [(2, 1), (5, 1), (1361, 1), (2851, 1), (4434155615661930479, 1)] (fun x hx => by
    simp only [List.mem_cons, List.not_mem_nil, or_false] at hx
    rcases hx with rfl | rfl | rfl | rfl | rfl
    · exact pr2
    · exact pr5
    · exact pr1361
    · exact pr2851
    · exact pr4434155615661930479
    ) (by decide) (by decide +kernel) (by decide +kernel) (by decide +kernel)).1
theorem pr198211423230930754013084525763697 : Pr 198211423230930754013084525763697 :=
  (lucas_by (g := 5) (k := 108) (by decide) [(2, 4), (3, 1), (23, 1), (58964693, 1), (3044861653679985063343, 1)] (fun x hx => by
    simp only [List.mem_cons, List.not_mem_nil, or_false] at hx
    rcases hx with rfl | rfl | rfl | rfl | rfl
    · exact pr2
    · exact pr3
    · exact pr23
    · exact pr58964693
    · exact pr3044861653679985063343
    ) (by decide) (by decide +kernel) (by decide +kernel) (by decide +kernel)).1
theorem pr19757330305831588566944191468367130476339 : Pr 19757330305831588566944191468367130476339 :=
  (lucas_by (g := 2) (k := 134) (by decide) [(2, 1), (269, 1), (213441916511, 1), (172054593956031949258510691, 1)] (fun x hx => by
    simp only [List.mem_cons, List.not_mem_nil, or_false] at hx
    rcases hx with rfl | rfl | rfl | rfl
    · exact pr2
    · exact pr269
    · exact pr213441916511
    · exact pr172054593956031949258510691
    ) (by decide) (by decide +kernel) (by decide +kernel) (by decide +kernel)).1
theorem pr203852586375664218368381551393371968928013 : Pr 203852586375664218368381551393371968928013 :=
  (lucas_by (g := 2) (k := 138) (by decide) [(2, 2), (3, 1), (743104567, 1), (1013266244677, 1), (22561162540501040539, 1)] (fun x hx => by
    simp only [List.mem_cons, List.not_mem_nil, or_false] at hx
    rcases hx with rfl | rfl | rfl | rfl | rfl
    · exact pr2
    · exact pr3
    · exact pr743104567
    · exact pr1013266244677
    · exact pr22561162540501040539
    ) (by decide) (by decide +kernel) (by decide +kernel) (by decide +kernel)).1
theorem pr276602624281642239937218680557139826668747 : Pr 276602624281642239937218680557139826668747 :=
  (lucas_by (g := 2) (k := 138) (by decide) [(2, 1), (7, 1), (19757330305831588566944191468367130476339, 1)] (fun x hx => by
    simp only [List.mem_cons, List.not_mem_nil, or_false] at hx
    rcases hx with rfl | rfl | rfl
    · exact pr2
    · exact pr7
    · exact pr19757330305831588566944191468367130476339
    ) (by decide) (by decide +kernel) (by decide +kernel) (by decide +kernel)).1
theorem pr104719073621178708975837602950775180438320278101 : Pr 104719073621178708975837602950775180438320278101 :=
  (lucas_by (g := 2) (k := 157) (by decide) [(2, 2), (5, 2), (11, 1), (467, 1), (203852586375664218368381551393371968928013, 1)] (fun x hx => by
    simp only [List.mem_cons, List.not_mem_nil, or_false] at hx
    rcases hx with rfl | rfl | rfl | rfl | rfl
    · exact pr2
    · exact pr5
    · exact pr11
    · exact pr467
    · exact pr203852586375664218368381551393371968928013
    ) (by decide) (by decide +kernel) (by decide +kernel) (by decide +kernel)).1
theorem pr27413359092552162435694767700453926735143482401279781 : Pr 27413359092552162435694767700453926735143482401279781 :=
  (lucas_by (g := 2) (k := 175) (by decide) [(2, 2), (3, 1), (5, 1), (4363, 1), (104719073621178708975837602950775180438320278101, 1)] (fun x hx => by
    simp only [List.mem_cons, List.not_mem_nil, or_false] at hx
    rcases hx with rfl | rfl | rfl | rfl | rfl
    · exact pr2
    · exact pr3
    · exact pr5
    · exact pr4363
    · exact pr104719073621178708975837602950775180438320278101
    ) (by decide) (by decide +kernel) (by decide +kernel) (by decide +kernel)).1
theorem pr7237005577332262213973186563042994240857116359379907606001950938285454250989 : Pr 7237005577332262213973186563042994240857116359379907606001950938285454250989 :=
  (lucas_by (g := 2) (k := 253) (by decide) [(2, 2), (3, 1), (11, 1), (198211423230930754013084525763697, 1), (276602624281642239937218680557139826668747, 1)] (fun x hx => by
    simp only [List.mem_cons, List.not_mem_nil, or_false] at hx
    rcases hx with rfl | rfl | rfl | rfl | rfl
    · exact pr2
    · exact pr3
    · exact pr11
    · exact pr198211423230930754013084525763697
    · exact pr276602624281642239937218680557139826668747
    ) (by decide) (by decide +kernel) (by decide +kernel) (by decide +kernel)).1
theorem pr14474011154664524427946373126085988481603263447650325797860494125407373907997 : Pr 14474011154664524427946373126085988481603263447650325797860494125407373907997 :=
  (lucas_by (g := 2) (k := 253) (by decide) [(2, 2), (79, 1), (117223, 1), (6418733, 1), (2220636239, 1), (27413359092552162435694767700453926735143482401279781, 1)] (fun x hx => by
    simp only [List.mem_cons, List.not_mem_nil, or_false] at hx
    rcases hx with rfl | rfl | rfl | rfl | rfl | rfl
    · exact pr2
    · exact pr79
    · exact pr117223
    · exact pr6418733
    · exact pr2220636239
    · exact pr27413359092552162435694767700453926735143482401279781
    ) (by decide) (by decide +kernel) (by decide +kernel) (by decide +kernel)).1
/-- The order of the base point. -/
def Lo : Nat := 7237005577332262213973186563042994240857116359379907606001950938285454250989
theorem prLo : Pr Lo := pr7237005577332262213973186563042994240857116359379907606001950938285454250989
/-- A quarter of the order of the twist. -/
def Tw : Nat := 14474011154664524427946373126085988481603263447650325797860494125407373907997
theorem prTw : Pr Tw := pr14474011154664524427946373126085988481603263447650325797860494125407373907997
end Prm
