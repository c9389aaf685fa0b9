/- Plain forms of functions. -/
import Derived.Test.YtppekacobjdhnaaDoorAv16
import Derived.Test.YtppekacobjdhnaaDoorProg
import Derived.KernelRfl
namespace Go.Proofs.YtppekacobjdhnaaDoor
set_option maxRecDepth 100000
set_option maxHeartbeats 1000000
def bA_ridgewaylaw02_awake : AC :=
  (.seq
   (.reg [
     ⟨(some 0), .mv (.val (.bool false)), none, []⟩])
   (.seq
    (.reg [
      ⟨(some 10), .bld [(.int .i64 0), (.int .i64 0)] [(0, 1, (.val (.int .i64 169869312))), (1, 1, (.val (.int .i64 11)))], none, []⟩,
      ⟨(some 1), .box 23 2 (.val (.agg [(.int .i64 0), (.int .i64 0)])), none, []⟩,
      ⟨none, .st 2 (.tmp 1) (.tmp 10), none, []⟩])
    (.seq
     (.reg [
       ⟨(some 11), .ld (some 2) (.tmp 1), none, []⟩,
       ⟨(some 12), .callS 26 [(.val (.slice .full 0 [])), (.tmp 11)], none, []⟩,
       ⟨(some 2), .mv (.tmp 12), none, []⟩])
     (.seq
      (.reg [
        ⟨(some 14), .mv (.tmp 2), none, []⟩,
        ⟨(some 15), .callS 11 [(.tmp 14)], none, []⟩,
        ⟨(some 13), .mv (.tmp 15), none, []⟩,
        ⟨(some 16), .ext (.tmp 13) 0, none, []⟩,
        ⟨(some 17), .ext (.tmp 13) 1, none, []⟩,
        ⟨(some 18), .ext (.tmp 13) 2, none, []⟩,
        ⟨(some 3), .box 23 2 (.val (.agg [(.int .i64 0), (.int .i64 0)])), none, []⟩,
        ⟨none, .st 2 (.tmp 3) (.tmp 16), none, []⟩,
        ⟨(some 4), .mv (.tmp 17), none, []⟩,
        ⟨(some 5), .mv (.tmp 18), none, []⟩])
      (.seq
       (.reg [
         ⟨(some 20), .callS 15 [(.val (.str ⟨⟨[49, 48, 46, 51, 50, 46, 48, 46, 48, 47, 49, 49]⟩⟩))], none, []⟩,
         ⟨(some 19), .mv (.tmp 20), none, []⟩,
         ⟨(some 21), .ext (.tmp 19) 0, none, []⟩,
         ⟨(some 22), .ext (.tmp 19) 1, none, []⟩,
         ⟨(some 6), .box 23 2 (.val (.agg [(.int .i64 0), (.int .i64 0)])), none, []⟩,
         ⟨none, .st 2 (.tmp 6) (.tmp 21), none, []⟩,
         ⟨(some 7), .mv (.tmp 22), none, []⟩])
       (.seq
        (.reg [
          ⟨(some 24), .mv (.tmp 2), none, []⟩,
          ⟨(some 25), .callS 13 [(.tmp 24)], none, []⟩,
          ⟨(some 23), .mv (.tmp 25), none, []⟩,
          ⟨(some 26), .ext (.tmp 23) 0, none, []⟩,
          ⟨(some 27), .ext (.tmp 23) 1, none, []⟩,
          ⟨(some 8), .mv (.tmp 26), none, []⟩,
          ⟨(some 9), .mv (.tmp 27), none, []⟩])
        (.seq
         (.reg [
           ⟨(some 28), .mv (.tmp 2), none, []⟩,
           ⟨(some 29), .b2s (.tmp 28), none, []⟩,
           ⟨(some 30), .bin .eql (.tmp 29) (.val (.str ⟨⟨[11, 10, 32]⟩⟩)), none, []⟩,
           ⟨(some 31), .mv (.tmp 30), none, []⟩,
           ⟨(some 32), .mv (.tmp 5), some (31, true), []⟩,
           ⟨(some 33), .pick (.tmp 31) (.tmp 32) (.val (.bool false)), none, []⟩,
           ⟨(some 34), .mv (.tmp 33), none, []⟩,
           ⟨(some 35), .ld (some 2) (.tmp 3), some (34, true), []⟩,
           ⟨(some 36), .ld (some 2) (.tmp 1), some (34, true), []⟩,
           ⟨(some 37), .eqA false 2 [(0, 0), (1, 0)] (.tmp 35) (.tmp 36), some (34, true), []⟩,
           ⟨(some 38), .pick (.tmp 34) (.tmp 37) (.val (.bool false)), none, []⟩,
           ⟨(some 39), .mv (.tmp 38), none, []⟩,
           ⟨(some 40), .mv (.tmp 4), some (39, true), []⟩,
           ⟨(some 41), .len (.tmp 40), some (39, true), []⟩,
           ⟨(some 42), .bin .eql (.tmp 41) (.val (.int .i64 0)), some (39, true), []⟩,
           ⟨(some 43), .pick (.tmp 39) (.tmp 42) (.val (.bool false)), none, []⟩,
           ⟨(some 44), .mv (.tmp 43), none, []⟩,
           ⟨(some 45), .mv (.tmp 7), some (44, true), []⟩,
           ⟨(some 46), .pick (.tmp 44) (.tmp 45) (.val (.bool false)), none, []⟩,
           ⟨(some 47), .mv (.tmp 46), none, []⟩,
           ⟨(some 48), .ld (some 2) (.tmp 6), some (47, true), []⟩,
           ⟨(some 49), .ld (some 2) (.tmp 1), some (47, true), []⟩,
           ⟨(some 50), .eqA false 2 [(0, 0), (1, 0)] (.tmp 48) (.tmp 49), some (47, true), []⟩,
           ⟨(some 51), .pick (.tmp 47) (.tmp 50) (.val (.bool false)), none, []⟩,
           ⟨(some 52), .mv (.tmp 51), none, []⟩,
           ⟨(some 53), .ld (some 2) (.tmp 1), some (52, true), []⟩,
           ⟨(some 54), .call 28 [(.tmp 53)], some (52, true), []⟩,
           ⟨(some 55), .bin .eql (.tmp 54) (.val (.str ⟨⟨[49, 48, 46, 51, 50, 46, 48, 46, 48, 47, 49, 49]⟩⟩)), some (52, true), []⟩,
           ⟨(some 56), .pick (.tmp 52) (.tmp 55) (.val (.bool false)), none, []⟩,
           ⟨(some 57), .mv (.tmp 56), none, []⟩,
           ⟨(some 58), .ld (some 2) (.tmp 1), some (57, true), []⟩,
           ⟨(some 59), .call 20 [(.tmp 58)], some (57, true), []⟩,
           ⟨(some 60), .pick (.tmp 57) (.tmp 59) (.val (.bool false)), none, []⟩,
           ⟨(some 61), .mv (.tmp 60), none, []⟩,
           ⟨(some 62), .bld [(.int .i64 0), (.int .i64 0)] [(0, 1, (.val (.int .i64 167772160))), (1, 1, (.val (.int .i64 8)))], some (61, true), []⟩,
           ⟨(some 63), .ld (some 2) (.tmp 1), some (61, true), []⟩,
           ⟨(some 64), .call 22 [(.tmp 62), (.tmp 63)], some (61, true), []⟩,
           ⟨(some 65), .pick (.tmp 61) (.tmp 64) (.val (.bool false)), none, []⟩,
           ⟨(some 66), .mv (.tmp 65), none, []⟩,
           ⟨(some 67), .off 0 (.tmp 1), some (66, true), []⟩,
           ⟨(some 68), .ld none (.tmp 67), some (66, true), []⟩,
           ⟨(some 69), .bin .add (.tmp 68) (.val (.int .i64 5)), some (66, true), []⟩,
           ⟨(some 70), .call 18 [(.tmp 69), (.val (.int .i64 11))], some (66, true), []⟩,
           ⟨(some 71), .off 0 (.tmp 1), some (66, true), []⟩,
           ⟨(some 72), .ld none (.tmp 71), some (66, true), []⟩,
           ⟨(some 73), .bin .eql (.tmp 70) (.tmp 72), some (66, true), []⟩,
           ⟨(some 74), .pick (.tmp 66) (.tmp 73) (.val (.bool false)), none, []⟩,
           ⟨(some 75), .mv (.tmp 74), none, []⟩,
           ⟨(some 76), .ld (some 2) (.tmp 1), some (75, true), []⟩,
           ⟨(some 77), .ld (some 2) (.tmp 1), some (75, true), []⟩,
           ⟨(some 78), .callS 24 [(.tmp 76), (.tmp 77)], some (75, true), []⟩,
           ⟨(some 79), .bin .eql (.tmp 78) (.val (.int .i64 0)), some (75, true), []⟩,
           ⟨(some 80), .pick (.tmp 75) (.tmp 79) (.val (.bool false)), none, []⟩,
           ⟨(some 81), .mv (.tmp 80), none, []⟩,
           ⟨(some 82), .mv (.tmp 9), some (81, true), []⟩,
           ⟨(some 83), .pick (.tmp 81) (.tmp 82) (.val (.bool false)), none, []⟩,
           ⟨(some 84), .mv (.tmp 83), none, []⟩,
           ⟨(some 85), .mv (.tmp 8), some (84, true), []⟩,
           ⟨(some 86), .len (.tmp 85), some (84, true), []⟩,
           ⟨(some 87), .bin .eql (.tmp 86) (.val (.int .i64 1)), some (84, true), []⟩,
           ⟨(some 88), .pick (.tmp 84) (.tmp 87) (.val (.bool false)), none, []⟩,
           ⟨(some 0), .mv (.tmp 88), none, []⟩])
         .ret)))))))
def cA_ridgewaylaw02_awake : AF := ⟨bA_ridgewaylaw02_awake, 89, [.tmp 0]⟩
theorem pA_ridgewaylaw02_awake : prepFunc Tryd.prog 10 = some cA_ridgewaylaw02_awake ∧ hasBody Tryd.prog 10 = true := ⟨by kernel_rfl, by kernel_rfl⟩
def bA_prefix_Get : AC :=
  (.seq
   (.reg [
     ⟨(some 2), .box 23 2 (.val (.agg [(.int .i64 0), (.int .i64 0)])), none, []⟩,
     ⟨(some 3), .mv (.val (.slice .full 0 [])), none, []⟩,
     ⟨(some 4), .mv (.val (.bool false)), none, []⟩])
   (.seq
    (.reg [
      ⟨(some 11), .mv (.tmp 0), none, []⟩,
      ⟨(some 12), .callS 30 [(.tmp 11), (.val (.int .i64 1))], none, []⟩,
      ⟨(some 10), .mv (.tmp 12), none, []⟩,
      ⟨(some 13), .ext (.tmp 10) 0, none, []⟩,
      ⟨(some 14), .ext (.tmp 10) 1, none, []⟩,
      ⟨(some 15), .ext (.tmp 10) 2, none, []⟩,
      ⟨(some 5), .mv (.tmp 13), none, []⟩,
      ⟨(some 0), .mv (.tmp 14), none, []⟩,
      ⟨(some 6), .mv (.tmp 15), none, []⟩])
    (.seq
     (.seq
      (.reg [
        ⟨(some 16), .mv (.tmp 6), none, []⟩,
        ⟨(some 17), .un .not (.tmp 16), none, []⟩,
        ⟨(some 18), .mv (.tmp 17), none, []⟩,
        ⟨(some 19), .mv (.tmp 5), some (18, false), []⟩,
        ⟨(some 20), .bin .gtr (.tmp 19) (.val (.int .i64 32)), some (18, false), []⟩,
        ⟨(some 21), .pick (.tmp 18) (.val (.bool true)) (.tmp 20), none, []⟩])
      (.cond (.tmp 21)
       (.seq
        (.reg [
          ⟨(some 22), .bld [(.int .i64 0), (.int .i64 0)] [], none, []⟩,
          ⟨none, .st 2 (.tmp 2) (.tmp 22), none, []⟩,
          ⟨(some 3), .mv (.val (.slice .full 0 [])), none, []⟩,
          ⟨(some 4), .mv (.val (.bool false)), none, []⟩])
        .ret)
       .skip))
     (.seq
      (.reg [
        ⟨(some 23), .mv (.tmp 5), none, []⟩,
        ⟨(some 24), .callS 31 [(.tmp 23)], none, []⟩,
        ⟨(some 7), .mv (.tmp 24), none, []⟩])
      (.seq
       (.seq
        (.reg [
          ⟨(some 25), .mv (.tmp 7), none, []⟩,
          ⟨(some 26), .bin .eql (.tmp 25) (.val (.int .i64 0)), none, []⟩])
        (.cond (.tmp 26)
         (.seq
          (.reg [
            ⟨(some 27), .bld [(.int .i64 0), (.int .i64 0)] [], none, []⟩,
            ⟨(some 28), .mv (.tmp 0), none, []⟩,
            ⟨none, .st 2 (.tmp 2) (.tmp 27), none, []⟩,
            ⟨(some 3), .mv (.tmp 28), none, []⟩,
            ⟨(some 4), .mv (.val (.bool true)), none, []⟩])
          .ret)
         .skip))
       (.seq
        (.reg [
          ⟨(some 30), .mv (.tmp 0), none, []⟩,
          ⟨(some 31), .mv (.tmp 7), none, []⟩,
          ⟨(some 32), .callS 30 [(.tmp 30), (.tmp 31)], none, []⟩,
          ⟨(some 29), .mv (.tmp 32), none, []⟩,
          ⟨(some 33), .ext (.tmp 29) 0, none, []⟩,
          ⟨(some 34), .ext (.tmp 29) 1, none, []⟩,
          ⟨(some 35), .ext (.tmp 29) 2, none, []⟩,
          ⟨(some 8), .mv (.tmp 33), none, []⟩,
          ⟨(some 9), .mv (.tmp 34), none, []⟩,
          ⟨(some 6), .mv (.tmp 35), none, []⟩])
        (.seq
         (.seq
          (.reg [
            ⟨(some 36), .mv (.tmp 6), none, []⟩,
            ⟨(some 37), .un .not (.tmp 36), none, []⟩])
          (.cond (.tmp 37)
           (.seq
            (.reg [
              ⟨(some 38), .bld [(.int .i64 0), (.int .i64 0)] [], none, []⟩,
              ⟨none, .st 2 (.tmp 2) (.tmp 38), none, []⟩,
              ⟨(some 3), .mv (.val (.slice .full 0 [])), none, []⟩,
              ⟨(some 4), .mv (.val (.bool false)), none, []⟩])
            .ret)
           .skip))
         (.seq
          (.reg [
            ⟨(some 39), .mv (.tmp 8), none, []⟩,
            ⟨(some 40), .mv (.tmp 7), none, []⟩,
            ⟨(some 41), .bin .mul (.val (.int .i64 8)) (.tmp 40), none, []⟩,
            ⟨(some 42), .bin .sub (.val (.int .i64 32)) (.tmp 41), none, []⟩,
            ⟨(some 43), .bin .shl (.tmp 39) (.tmp 42), none, []⟩,
            ⟨(some 44), .mv (.tmp 5), none, []⟩,
            ⟨(some 45), .callS 18 [(.tmp 43), (.tmp 44)], none, []⟩,
            ⟨(some 46), .mv (.tmp 5), none, []⟩,
            ⟨(some 47), .bld [(.int .i64 0), (.int .i64 0)] [(0, 1, (.tmp 45)), (1, 1, (.tmp 46))], none, []⟩,
            ⟨(some 48), .mv (.tmp 9), none, []⟩,
            ⟨none, .st 2 (.tmp 2) (.tmp 47), none, []⟩,
            ⟨(some 3), .mv (.tmp 48), none, []⟩,
            ⟨(some 4), .mv (.val (.bool true)), none, []⟩])
          .ret))))))))
def cA_prefix_Get : AF := ⟨bA_prefix_Get, 49, [.cell 2 (some 2), .tmp 3, .tmp 4]⟩
theorem pA_prefix_Get : prepFunc Tryd.prog 11 = some cA_prefix_Get ∧ hasBody Tryd.prog 11 = true := ⟨by kernel_rfl, by kernel_rfl⟩
def bA_prefix_All : AC :=
  (.seq
   (.reg [
     ⟨(some 2), .mv (.val (.slice .full 0 [])), none, []⟩,
     ⟨(some 3), .mv (.val (.bool false)), none, []⟩])
   (.scope
    (.seq
     (.reg [
       ⟨(some 4), .mv (.val (.slice .full 0 [])), none, []⟩])
     (.seq
      (.label 0)
      (.block 0
       (.loop
        (.block 1
         (.seq
          (.reg [
            ⟨(some 9), .mv (.tmp 0), none, []⟩,
            ⟨(some 10), .callS 11 [(.tmp 9)], none, []⟩,
            ⟨(some 8), .mv (.tmp 10), none, []⟩,
            ⟨(some 11), .ext (.tmp 8) 0, none, []⟩,
            ⟨(some 12), .ext (.tmp 8) 1, none, []⟩,
            ⟨(some 13), .ext (.tmp 8) 2, none, []⟩,
            ⟨(some 5), .box 23 2 (.val (.agg [(.int .i64 0), (.int .i64 0)])), none, []⟩,
            ⟨none, .st 2 (.tmp 5) (.tmp 11), none, []⟩,
            ⟨(some 6), .mv (.tmp 12), none, []⟩,
            ⟨(some 7), .mv (.tmp 13), none, []⟩])
          (.seq
           (.block 2
            (.seq
             (.reg [
               ⟨(some 15), .mv (.tmp 7), none, []⟩,
               ⟨(some 14), .mv (.tmp 15), none, []⟩])
             (.cond (.tmp 14)
              (.seq
               (.reg [
                 ⟨(some 16), .mv (.tmp 4), none, []⟩,
                 ⟨(some 17), .ld (some 2) (.tmp 5), none, []⟩,
                 ⟨(some 18), .lit 23 2 [0, 0] [(.tmp 17)], none, []⟩,
                 ⟨(some 19), .app 23 2 16 (.tmp 16) (.tmp 18), none, []⟩,
                 ⟨(some 20), .mv (.tmp 6), none, []⟩,
                 ⟨(some 4), .mv (.tmp 19), none, []⟩,
                 ⟨(some 0), .mv (.tmp 20), none, []⟩])
               (.exit 1))
              (.seq
               (.reg [
                 ⟨(some 22), .mv (.tmp 0), none, []⟩,
                 ⟨(some 23), .len (.tmp 22), none, []⟩,
                 ⟨(some 24), .bin .gtr (.tmp 23) (.val (.int .i64 0)), none, []⟩,
                 ⟨(some 21), .mv (.tmp 24), none, []⟩])
               (.cond (.tmp 21)
                (.seq
                 (.reg [
                   ⟨(some 2), .mv (.val (.slice .full 0 [])), none, []⟩,
                   ⟨(some 3), .mv (.val (.bool false)), none, []⟩])
                 .ret)
                .skip)))))
           (.seq
            (.reg [
              ⟨(some 25), .mv (.tmp 4), none, []⟩,
              ⟨(some 2), .mv (.tmp 25), none, []⟩,
              ⟨(some 3), .mv (.val (.bool true)), none, []⟩])
            .ret))))))))))
def cA_prefix_All : AF := ⟨bA_prefix_All, 26, [.tmp 2, .tmp 3]⟩
theorem pA_prefix_All : prepFunc Tryd.prog 13 = some cA_prefix_All ∧ hasBody Tryd.prog 13 = true := ⟨by kernel_rfl, by kernel_rfl⟩
def bA_prefix_Read : AC :=
  (.seq
   (.reg [
     ⟨(some 2), .box 23 2 (.val (.agg [(.int .i64 0), (.int .i64 0)])), none, []⟩,
     ⟨(some 3), .mv (.val (.bool false)), none, []⟩])
   (.seq
    (.reg [
      ⟨(some 11), .mv (.tmp 0), none, []⟩,
      ⟨(some 12), .callS 33 [(.tmp 11), (.val (.str ⟨⟨[47]⟩⟩))], none, []⟩,
      ⟨(some 10), .mv (.tmp 12), none, []⟩,
      ⟨(some 13), .ext (.tmp 10) 0, none, []⟩,
      ⟨(some 14), .ext (.tmp 10) 1, none, []⟩,
      ⟨(some 15), .ext (.tmp 10) 2, none, []⟩,
      ⟨(some 4), .mv (.tmp 13), none, []⟩,
      ⟨(some 5), .mv (.tmp 14), none, []⟩,
      ⟨(some 6), .mv (.tmp 15), none, []⟩])
    (.seq
     (.reg [
       ⟨(some 16), .mv (.tmp 5), none, []⟩,
       ⟨(some 17), .callS 34 [(.tmp 16)], none, []⟩,
       ⟨(some 18), .bld [(.int .i64 0), (.int .i64 0)] [(1, 1, (.tmp 17))], none, []⟩,
       ⟨(some 7), .box 23 2 (.val (.agg [(.int .i64 0), (.int .i64 0)])), none, []⟩,
       ⟨none, .st 2 (.tmp 7) (.tmp 18), none, []⟩])
     (.seq
      (.seq
       (.reg [
         ⟨(some 19), .mv (.tmp 4), none, []⟩,
         ⟨(some 20), .callS 35 [(.tmp 19), (.val (.str ⟨⟨[46]⟩⟩))], none, []⟩,
         ⟨(some 21), .len (.tmp 20), none, []⟩,
         ⟨(some 22), .mv (.val (.int .i64 0)), none, []⟩])
       (.block 0
        (.loop
         (.seq
          (.reg [
            ⟨(some 23), .bin .lss (.tmp 22) (.tmp 21), none, []⟩])
          (.seq
           (.cond (.tmp 23)
            .skip
            (.exit 0))
           (.seq
            (.block 1
             (.seq
              (.reg [
                ⟨(some 24), .idxA 1 (.tmp 20) (.tmp 22), none, []⟩,
                ⟨(some 25), .ld none (.tmp 24), none, []⟩,
                ⟨(some 9), .mv (.tmp 25), none, []⟩])
              (.reg [
                ⟨(some 26), .off 0 (.tmp 7), none, []⟩,
                ⟨(some 27), .ld none (.tmp 26), none, []⟩,
                ⟨(some 28), .bin .shl (.tmp 27) (.val (.int .u64 8)), none, []⟩,
                ⟨(some 29), .mv (.tmp 9), none, []⟩,
                ⟨(some 30), .call 34 [(.tmp 29)], none, []⟩,
                ⟨(some 31), .bin .or (.tmp 28) (.tmp 30), none, []⟩,
                ⟨(some 32), .off 0 (.tmp 7), none, []⟩,
                ⟨none, .st 1 (.tmp 32) (.tmp 31), none, []⟩])))
            (.reg [
              ⟨(some 33), .bin .add (.tmp 22) (.val (.int .i64 1)), none, []⟩,
              ⟨(some 22), .mv (.tmp 33), none, []⟩])))))))
      (.seq
       (.seq
        (.reg [
          ⟨(some 34), .ld (some 2) (.tmp 7), none, []⟩,
          ⟨(some 35), .callS 20 [(.tmp 34)], none, []⟩,
          ⟨(some 36), .un .not (.tmp 35), none, []⟩,
          ⟨(some 37), .mv (.tmp 36), none, []⟩,
          ⟨(some 38), .ld (some 2) (.tmp 7), some (37, false), []⟩,
          ⟨(some 39), .callS 28 [(.tmp 38)], some (37, false), []⟩,
          ⟨(some 40), .mv (.tmp 0), some (37, false), []⟩,
          ⟨(some 41), .bin .neq (.tmp 39) (.tmp 40), some (37, false), []⟩,
          ⟨(some 42), .pick (.tmp 37) (.val (.bool true)) (.tmp 41), none, []⟩])
        (.cond (.tmp 42)
         (.seq
          (.reg [
            ⟨(some 43), .bld [(.int .i64 0), (.int .i64 0)] [], none, []⟩,
            ⟨none, .st 2 (.tmp 2) (.tmp 43), none, []⟩,
            ⟨(some 3), .mv (.val (.bool false)), none, []⟩])
          .ret)
         .skip))
       (.seq
        (.reg [
          ⟨(some 44), .ld (some 2) (.tmp 7), none, []⟩,
          ⟨none, .st 2 (.tmp 2) (.tmp 44), none, []⟩,
          ⟨(some 3), .mv (.val (.bool true)), none, []⟩])
        .ret))))))
def cA_prefix_Read : AF := ⟨bA_prefix_Read, 45, [.cell 2 (some 2), .tmp 3]⟩
theorem pA_prefix_Read : prepFunc Tryd.prog 15 = some cA_prefix_Read ∧ hasBody Tryd.prog 15 = true := ⟨by kernel_rfl, by kernel_rfl⟩
def bA_prefix_Mask : AC :=
  (.seq
   (.reg [
     ⟨(some 4), .mv (.val (.int .i64 0)), none, []⟩])
   (.seq
    (.reg [
      ⟨(some 6), .mv (.tmp 1), none, []⟩,
      ⟨(some 7), .mx (.tmp 6) (.val (.int .i64 0)), none, []⟩,
      ⟨(some 8), .mn (.tmp 7) (.val (.int .i64 32)), none, []⟩,
      ⟨(some 9), .bin .sub (.val (.int .i64 32)) (.tmp 8), none, []⟩,
      ⟨(some 5), .mv (.tmp 9), none, []⟩])
    (.seq
     (.reg [
       ⟨(some 10), .mv (.tmp 0), none, []⟩,
       ⟨(some 11), .bin .and (.tmp 10) (.val (.int .i64 4294967295)), none, []⟩,
       ⟨(some 12), .mv (.tmp 5), none, []⟩,
       ⟨(some 13), .bin .shr (.tmp 11) (.tmp 12), none, []⟩,
       ⟨(some 14), .mv (.tmp 5), none, []⟩,
       ⟨(some 15), .bin .shl (.tmp 13) (.tmp 14), none, []⟩,
       ⟨(some 4), .mv (.tmp 15), none, []⟩])
     .ret)))
def cA_prefix_Mask : AF := ⟨bA_prefix_Mask, 16, [.tmp 4]⟩
theorem pA_prefix_Mask : prepFunc Tryd.prog 18 = some cA_prefix_Mask ∧ hasBody Tryd.prog 18 = true := ⟨by kernel_rfl, by kernel_rfl⟩
def bA_prefix_Sane : AC :=
  (.seq
   (.reg [
     ⟨(some 1), .box 23 2 (.tmp 0), none, []⟩,
     ⟨(some 2), .mv (.val (.bool false)), none, []⟩])
   (.seq
    (.reg [
      ⟨(some 3), .off 1 (.tmp 1), none, []⟩,
      ⟨(some 4), .ld none (.tmp 3), none, []⟩,
      ⟨(some 5), .bin .geq (.tmp 4) (.val (.int .i64 0)), none, []⟩,
      ⟨(some 6), .mv (.tmp 5), none, []⟩,
      ⟨(some 7), .off 1 (.tmp 1), some (6, true), []⟩,
      ⟨(some 8), .ld none (.tmp 7), some (6, true), []⟩,
      ⟨(some 9), .bin .leq (.tmp 8) (.val (.int .i64 32)), some (6, true), []⟩,
      ⟨(some 10), .pick (.tmp 6) (.tmp 9) (.val (.bool false)), none, []⟩,
      ⟨(some 11), .mv (.tmp 10), none, []⟩,
      ⟨(some 12), .off 0 (.tmp 1), some (11, true), []⟩,
      ⟨(some 13), .ld none (.tmp 12), some (11, true), []⟩,
      ⟨(some 14), .off 1 (.tmp 1), some (11, true), []⟩,
      ⟨(some 15), .ld none (.tmp 14), some (11, true), []⟩,
      ⟨(some 16), .call 18 [(.tmp 13), (.tmp 15)], some (11, true), []⟩,
      ⟨(some 17), .off 0 (.tmp 1), some (11, true), []⟩,
      ⟨(some 18), .ld none (.tmp 17), some (11, true), []⟩,
      ⟨(some 19), .bin .eql (.tmp 16) (.tmp 18), some (11, true), []⟩,
      ⟨(some 20), .pick (.tmp 11) (.tmp 19) (.val (.bool false)), none, []⟩,
      ⟨(some 2), .mv (.tmp 20), none, []⟩])
    .ret))
def cA_prefix_Sane : AF := ⟨bA_prefix_Sane, 21, [.tmp 2]⟩
theorem pA_prefix_Sane : prepFunc Tryd.prog 20 = some cA_prefix_Sane ∧ hasBody Tryd.prog 20 = true := ⟨by kernel_rfl, by kernel_rfl⟩
def bA_prefix_Has : AC :=
  (.seq
   (.reg [
     ⟨(some 2), .box 23 2 (.tmp 0), none, []⟩,
     ⟨(some 3), .box 23 2 (.tmp 1), none, []⟩,
     ⟨(some 4), .mv (.val (.bool false)), none, []⟩])
   (.seq
    (.reg [
      ⟨(some 5), .ld (some 2) (.tmp 2), none, []⟩,
      ⟨(some 6), .call 20 [(.tmp 5)], none, []⟩,
      ⟨(some 7), .mv (.tmp 6), none, []⟩,
      ⟨(some 8), .ld (some 2) (.tmp 3), some (7, true), []⟩,
      ⟨(some 9), .call 20 [(.tmp 8)], some (7, true), []⟩,
      ⟨(some 10), .pick (.tmp 7) (.tmp 9) (.val (.bool false)), none, []⟩,
      ⟨(some 11), .mv (.tmp 10), none, []⟩,
      ⟨(some 12), .off 1 (.tmp 3), some (11, true), []⟩,
      ⟨(some 13), .ld none (.tmp 12), some (11, true), []⟩,
      ⟨(some 14), .off 1 (.tmp 2), some (11, true), []⟩,
      ⟨(some 15), .ld none (.tmp 14), some (11, true), []⟩,
      ⟨(some 16), .bin .geq (.tmp 13) (.tmp 15), some (11, true), []⟩,
      ⟨(some 17), .pick (.tmp 11) (.tmp 16) (.val (.bool false)), none, []⟩,
      ⟨(some 18), .mv (.tmp 17), none, []⟩,
      ⟨(some 19), .off 0 (.tmp 3), some (18, true), []⟩,
      ⟨(some 20), .ld none (.tmp 19), some (18, true), []⟩,
      ⟨(some 21), .off 1 (.tmp 2), some (18, true), []⟩,
      ⟨(some 22), .ld none (.tmp 21), some (18, true), []⟩,
      ⟨(some 23), .call 18 [(.tmp 20), (.tmp 22)], some (18, true), []⟩,
      ⟨(some 24), .off 0 (.tmp 2), some (18, true), []⟩,
      ⟨(some 25), .ld none (.tmp 24), some (18, true), []⟩,
      ⟨(some 26), .bin .eql (.tmp 23) (.tmp 25), some (18, true), []⟩,
      ⟨(some 27), .pick (.tmp 18) (.tmp 26) (.val (.bool false)), none, []⟩,
      ⟨(some 4), .mv (.tmp 27), none, []⟩])
    .ret))
def cA_prefix_Has : AF := ⟨bA_prefix_Has, 28, [.tmp 4]⟩
theorem pA_prefix_Has : prepFunc Tryd.prog 22 = some cA_prefix_Has ∧ hasBody Tryd.prog 22 = true := ⟨by kernel_rfl, by kernel_rfl⟩
def bA_prefix_Compare : AC :=
  (.seq
   (.reg [
     ⟨(some 2), .box 23 2 (.tmp 0), none, []⟩,
     ⟨(some 3), .box 23 2 (.tmp 1), none, []⟩,
     ⟨(some 4), .mv (.val (.int .i64 0)), none, []⟩])
   (.seq
    (.reg [
      ⟨(some 5), .off 0 (.tmp 2), none, []⟩,
      ⟨(some 6), .ld none (.tmp 5), none, []⟩,
      ⟨(some 7), .off 0 (.tmp 3), none, []⟩,
      ⟨(some 8), .ld none (.tmp 7), none, []⟩,
      ⟨(some 9), .call 41 [(.tmp 6), (.tmp 8)], none, []⟩,
      ⟨(some 10), .off 1 (.tmp 2), none, []⟩,
      ⟨(some 11), .ld none (.tmp 10), none, []⟩,
      ⟨(some 12), .off 1 (.tmp 3), none, []⟩,
      ⟨(some 13), .ld none (.tmp 12), none, []⟩,
      ⟨(some 14), .callS 41 [(.tmp 11), (.tmp 13)], none, []⟩,
      ⟨(some 15), .lit 3 1 [0] [(.tmp 9), (.tmp 14)], none, []⟩,
      ⟨(some 16), .callS 40 [(.tmp 15)], none, []⟩,
      ⟨(some 4), .mv (.tmp 16), none, []⟩])
    .ret))
def cA_prefix_Compare : AF := ⟨bA_prefix_Compare, 17, [.tmp 4]⟩
theorem pA_prefix_Compare : prepFunc Tryd.prog 24 = some cA_prefix_Compare ∧ hasBody Tryd.prog 24 = true := ⟨by kernel_rfl, by kernel_rfl⟩
def bA_prefix_Put : AC :=
  (.seq
   (.reg [
     ⟨(some 3), .box 23 2 (.tmp 1), none, []⟩,
     ⟨(some 4), .mv (.val (.slice .full 0 [])), none, []⟩])
   (.seq
    (.seq
     (.reg [
       ⟨(some 6), .ld (some 2) (.tmp 3), none, []⟩,
       ⟨(some 7), .callS 20 [(.tmp 6)], none, []⟩,
       ⟨(some 8), .un .not (.tmp 7), none, []⟩])
     (.cond (.tmp 8)
      (.seq
       (.reg [
         ⟨(some 9), .mv (.tmp 0), none, []⟩,
         ⟨(some 4), .mv (.tmp 9), none, []⟩])
       .ret)
      .skip))
    (.seq
     (.reg [
       ⟨(some 10), .off 1 (.tmp 3), none, []⟩,
       ⟨(some 11), .ld none (.tmp 10), none, []⟩,
       ⟨(some 12), .callS 31 [(.tmp 11)], none, []⟩,
       ⟨(some 5), .mv (.tmp 12), none, []⟩])
     (.seq
      (.reg [
        ⟨(some 13), .mv (.tmp 0), none, []⟩,
        ⟨(some 14), .off 1 (.tmp 3), none, []⟩,
        ⟨(some 15), .ld none (.tmp 14), none, []⟩,
        ⟨(some 16), .call 42 [(.tmp 13), (.tmp 15), (.val (.int .i64 1))], none, []⟩,
        ⟨(some 17), .off 0 (.tmp 3), none, []⟩,
        ⟨(some 18), .ld none (.tmp 17), none, []⟩,
        ⟨(some 19), .mv (.tmp 5), none, []⟩,
        ⟨(some 20), .bin .mul (.val (.int .i64 8)) (.tmp 19), none, []⟩,
        ⟨(some 21), .bin .sub (.val (.int .i64 32)) (.tmp 20), none, []⟩,
        ⟨(some 22), .bin .shr (.tmp 18) (.tmp 21), none, []⟩,
        ⟨(some 23), .mv (.tmp 5), none, []⟩,
        ⟨(some 24), .callS 42 [(.tmp 16), (.tmp 22), (.tmp 23)], none, []⟩,
        ⟨(some 4), .mv (.tmp 24), none, []⟩])
      .ret))))
def cA_prefix_Put : AF := ⟨bA_prefix_Put, 25, [.tmp 4]⟩
theorem pA_prefix_Put : prepFunc Tryd.prog 26 = some cA_prefix_Put ∧ hasBody Tryd.prog 26 = true := ⟨by kernel_rfl, by kernel_rfl⟩
def bA_prefix_Text : AC :=
  (.seq
   (.reg [
     ⟨(some 1), .box 23 2 (.tmp 0), none, []⟩,
     ⟨(some 2), .mv (.val (.str ⟨⟨[]⟩⟩)), none, []⟩])
   (.seq
    (.seq
     (.reg [
       ⟨(some 6), .ld (some 2) (.tmp 1), none, []⟩,
       ⟨(some 7), .callS 20 [(.tmp 6)], none, []⟩,
       ⟨(some 8), .un .not (.tmp 7), none, []⟩])
     (.cond (.tmp 8)
      (.seq
       (.reg [
         ⟨(some 2), .mv (.val (.str ⟨⟨[]⟩⟩)), none, []⟩])
       .ret)
      .skip))
    (.seq
     (.reg [
       ⟨(some 3), .mv (.val (.slice .full 0 [])), none, []⟩])
     (.seq
      (.seq
       (.reg [
         ⟨(some 9), .off 0 (.tmp 1), none, []⟩,
         ⟨(some 10), .ld none (.tmp 9), none, []⟩,
         ⟨(some 11), .callS 42 [(.val (.slice .full 0 [])), (.tmp 10), (.val (.int .i64 4))], none, []⟩,
         ⟨(some 12), .len (.tmp 11), none, []⟩,
         ⟨(some 13), .mv (.val (.int .i64 0)), none, []⟩])
       (.block 0
        (.loop
         (.seq
          (.reg [
            ⟨(some 14), .bin .lss (.tmp 13) (.tmp 12), none, []⟩])
          (.seq
           (.cond (.tmp 14)
            .skip
            (.exit 0))
           (.seq
            (.block 1
             (.seq
              (.reg [
                ⟨(some 15), .idxA 1 (.tmp 11) (.tmp 13), none, []⟩,
                ⟨(some 16), .ld none (.tmp 15), none, []⟩,
                ⟨(some 5), .mv (.tmp 16), none, []⟩])
              (.reg [
                ⟨(some 17), .mv (.tmp 3), none, []⟩,
                ⟨(some 18), .mv (.tmp 5), none, []⟩,
                ⟨(some 19), .conv .i64 (.tmp 18), none, []⟩,
                ⟨(some 20), .callS 43 [(.tmp 19)], none, []⟩,
                ⟨(some 21), .lit 9 1 [0] [(.tmp 20)], none, []⟩,
                ⟨(some 22), .app 9 1 16 (.tmp 17) (.tmp 21), none, []⟩,
                ⟨(some 3), .mv (.tmp 22), none, []⟩])))
            (.reg [
              ⟨(some 23), .bin .add (.tmp 13) (.val (.int .i64 1)), none, []⟩,
              ⟨(some 13), .mv (.tmp 23), none, []⟩])))))))
      (.seq
       (.reg [
         ⟨(some 24), .mv (.tmp 3), none, []⟩,
         ⟨(some 25), .call 44 [(.tmp 24), (.val (.str ⟨⟨[46]⟩⟩))], none, []⟩,
         ⟨(some 26), .bin .add (.tmp 25) (.val (.str ⟨⟨[47]⟩⟩)), none, []⟩,
         ⟨(some 27), .off 1 (.tmp 1), none, []⟩,
         ⟨(some 28), .ld none (.tmp 27), none, []⟩,
         ⟨(some 29), .call 43 [(.tmp 28)], none, []⟩,
         ⟨(some 30), .bin .add (.tmp 26) (.tmp 29), none, []⟩,
         ⟨(some 2), .mv (.tmp 30), none, []⟩])
       .ret)))))
def cA_prefix_Text : AF := ⟨bA_prefix_Text, 31, [.tmp 2]⟩
theorem pA_prefix_Text : prepFunc Tryd.prog 28 = some cA_prefix_Text ∧ hasBody Tryd.prog 28 = true := ⟨by kernel_rfl, by kernel_rfl⟩
def bA_octet_Get : AC :=
  (.seq
   (.reg [
     ⟨(some 4), .mv (.val (.int .i64 0)), none, []⟩,
     ⟨(some 5), .mv (.val (.slice .full 0 [])), none, []⟩,
     ⟨(some 6), .mv (.val (.bool false)), none, []⟩])
   (.seq
    (.seq
     (.reg [
       ⟨(some 13), .mv (.tmp 1), none, []⟩,
       ⟨(some 14), .bin .lss (.tmp 13) (.val (.int .i64 1)), none, []⟩,
       ⟨(some 15), .mv (.tmp 14), none, []⟩,
       ⟨(some 16), .mv (.tmp 1), some (15, false), []⟩,
       ⟨(some 17), .bin .gtr (.tmp 16) (.val (.int .i64 4)), some (15, false), []⟩,
       ⟨(some 18), .pick (.tmp 15) (.val (.bool true)) (.tmp 17), none, []⟩])
     (.cond (.tmp 18)
      (.seq
       (.reg [
         ⟨(some 4), .mv (.val (.int .i64 0)), none, []⟩,
         ⟨(some 5), .mv (.val (.slice .full 0 [])), none, []⟩,
         ⟨(some 6), .mv (.val (.bool false)), none, []⟩])
       .ret)
      .skip))
    (.seq
     (.reg [
       ⟨(some 20), .mv (.tmp 0), none, []⟩,
       ⟨(some 21), .mv (.tmp 1), none, []⟩,
       ⟨(some 22), .callS 46 [(.tmp 20), (.tmp 21)], none, []⟩,
       ⟨(some 19), .mv (.tmp 22), none, []⟩,
       ⟨(some 23), .ext (.tmp 19) 0, none, []⟩,
       ⟨(some 24), .ext (.tmp 19) 1, none, []⟩,
       ⟨(some 25), .ext (.tmp 19) 2, none, []⟩,
       ⟨(some 7), .mv (.tmp 23), none, []⟩,
       ⟨(some 8), .mv (.tmp 24), none, []⟩,
       ⟨(some 9), .mv (.tmp 25), none, []⟩])
     (.seq
      (.reg [
        ⟨(some 10), .mv (.val (.int .i64 0)), none, []⟩])
      (.seq
       (.seq
        (.reg [
          ⟨(some 26), .mv (.tmp 7), none, []⟩,
          ⟨(some 27), .len (.tmp 26), none, []⟩,
          ⟨(some 28), .mv (.val (.int .i64 0)), none, []⟩])
        (.block 0
         (.loop
          (.seq
           (.reg [
             ⟨(some 29), .bin .lss (.tmp 28) (.tmp 27), none, []⟩])
           (.seq
            (.cond (.tmp 29)
             .skip
             (.exit 0))
            (.seq
             (.block 1
              (.seq
               (.reg [
                 ⟨(some 30), .idxA 1 (.tmp 26) (.tmp 28), none, []⟩,
                 ⟨(some 31), .ld none (.tmp 30), none, []⟩,
                 ⟨(some 12), .mv (.tmp 31), none, []⟩])
               (.reg [
                 ⟨(some 32), .mv (.tmp 10), none, []⟩,
                 ⟨(some 33), .bin .shl (.tmp 32) (.val (.int .u64 8)), none, []⟩,
                 ⟨(some 34), .mv (.tmp 12), none, []⟩,
                 ⟨(some 35), .conv .i64 (.tmp 34), none, []⟩,
                 ⟨(some 36), .bin .or (.tmp 33) (.tmp 35), none, []⟩,
                 ⟨(some 10), .mv (.tmp 36), none, []⟩])))
             (.reg [
               ⟨(some 37), .bin .add (.tmp 28) (.val (.int .i64 1)), none, []⟩,
               ⟨(some 28), .mv (.tmp 37), none, []⟩])))))))
       (.seq
        (.reg [
          ⟨(some 38), .mv (.tmp 10), none, []⟩,
          ⟨(some 39), .mv (.tmp 8), none, []⟩,
          ⟨(some 40), .mv (.tmp 9), none, []⟩,
          ⟨(some 4), .mv (.tmp 38), none, []⟩,
          ⟨(some 5), .mv (.tmp 39), none, []⟩,
          ⟨(some 6), .mv (.tmp 40), none, []⟩])
        .ret))))))
def cA_octet_Get : AF := ⟨bA_octet_Get, 41, [.tmp 4, .tmp 5, .tmp 6]⟩
theorem pA_octet_Get : prepFunc Tryd.prog 30 = some cA_octet_Get ∧ hasBody Tryd.prog 30 = true := ⟨by kernel_rfl, by kernel_rfl⟩
def bA_prefix_size : AC :=
  (.seq
   (.reg [
     ⟨(some 2), .mv (.val (.int .i64 0)), none, []⟩])
   (.seq
    (.reg [
      ⟨(some 3), .mv (.tmp 0), none, []⟩,
      ⟨(some 4), .bin .add (.tmp 3) (.val (.int .i64 7)), none, []⟩,
      ⟨(some 5), .bin .quo (.tmp 4) (.val (.int .i64 8)), none, []⟩,
      ⟨(some 2), .mv (.tmp 5), none, []⟩])
    .ret))
def cA_prefix_size : AF := ⟨bA_prefix_size, 6, [.tmp 2]⟩
theorem pA_prefix_size : prepFunc Tryd.prog 31 = some cA_prefix_size ∧ hasBody Tryd.prog 31 = true := ⟨by kernel_rfl, by kernel_rfl⟩
def bA_prefix_number : AC :=
  (.seq
   (.reg [
     ⟨(some 2), .mv (.val (.int .i64 0)), none, []⟩])
   (.seq
    (.reg [
      ⟨(some 6), .mv (.tmp 0), none, []⟩,
      ⟨(some 7), .callS 48 [(.tmp 6)], none, []⟩,
      ⟨(some 5), .mv (.tmp 7), none, []⟩,
      ⟨(some 8), .ext (.tmp 5) 0, none, []⟩,
      ⟨(some 9), .ext (.tmp 5) 1, none, []⟩,
      ⟨(some 3), .mv (.tmp 8), none, []⟩,
      ⟨(some 4), .mv (.tmp 9), none, []⟩])
    (.seq
     (.seq
      (.reg [
        ⟨(some 10), .mv (.tmp 4), none, []⟩,
        ⟨(some 11), .isNil true (.tmp 10), none, []⟩])
      (.cond (.tmp 11)
       (.seq
        (.reg [
          ⟨(some 2), .mv (.val (.int .i64 (-1))), none, []⟩])
        .ret)
       .skip))
     (.seq
      (.reg [
        ⟨(some 12), .mv (.tmp 3), none, []⟩,
        ⟨(some 2), .mv (.tmp 12), none, []⟩])
      .ret))))
def cA_prefix_number : AF := ⟨bA_prefix_number, 13, [.tmp 2]⟩
theorem pA_prefix_number : prepFunc Tryd.prog 34 = some cA_prefix_number ∧ hasBody Tryd.prog 34 = true := ⟨by kernel_rfl, by kernel_rfl⟩
def bA_cmp_Or_int : AC :=
  (.seq
   (.reg [
     ⟨(some 2), .mv (.val (.int .i64 0)), none, []⟩])
   (.seq
    (.reg [
      ⟨(some 3), .mv (.val (.int .i64 0)), none, []⟩])
    (.seq
     (.seq
      (.reg [
        ⟨(some 6), .mv (.tmp 0), none, []⟩,
        ⟨(some 7), .len (.tmp 6), none, []⟩,
        ⟨(some 8), .mv (.val (.int .i64 0)), none, []⟩])
      (.block 0
       (.loop
        (.seq
         (.reg [
           ⟨(some 9), .bin .lss (.tmp 8) (.tmp 7), none, []⟩])
         (.seq
          (.cond (.tmp 9)
           .skip
           (.exit 0))
          (.seq
           (.block 1
            (.seq
             (.reg [
               ⟨(some 10), .idxA 1 (.tmp 6) (.tmp 8), none, []⟩,
               ⟨(some 11), .ld none (.tmp 10), none, []⟩,
               ⟨(some 5), .mv (.tmp 11), none, []⟩])
             (.seq
              (.reg [
                ⟨(some 12), .mv (.tmp 5), none, []⟩,
                ⟨(some 13), .mv (.tmp 3), none, []⟩,
                ⟨(some 14), .bin .neq (.tmp 12) (.tmp 13), none, []⟩])
              (.cond (.tmp 14)
               (.seq
                (.reg [
                  ⟨(some 15), .mv (.tmp 5), none, []⟩,
                  ⟨(some 2), .mv (.tmp 15), none, []⟩])
                .ret)
               .skip))))
           (.reg [
             ⟨(some 16), .bin .add (.tmp 8) (.val (.int .i64 1)), none, []⟩,
             ⟨(some 8), .mv (.tmp 16), none, []⟩])))))))
     (.seq
      (.reg [
        ⟨(some 17), .mv (.tmp 3), none, []⟩,
        ⟨(some 2), .mv (.tmp 17), none, []⟩])
      .ret))))
def cA_cmp_Or_int : AF := ⟨bA_cmp_Or_int, 18, [.tmp 2]⟩
theorem pA_cmp_Or_int : prepFunc Tryd.prog 40 = some cA_cmp_Or_int ∧ hasBody Tryd.prog 40 = true := ⟨by kernel_rfl, by kernel_rfl⟩
def bA_cmp_Compare_int : AC :=
  (.seq
   (.reg [
     ⟨(some 4), .mv (.val (.int .i64 0)), none, []⟩])
   (.seq
    (.reg [
      ⟨(some 7), .mv (.tmp 0), none, []⟩,
      ⟨(some 8), .callS 50 [(.tmp 7)], none, []⟩,
      ⟨(some 5), .mv (.tmp 8), none, []⟩])
    (.seq
     (.reg [
       ⟨(some 9), .mv (.tmp 1), none, []⟩,
       ⟨(some 10), .callS 50 [(.tmp 9)], none, []⟩,
       ⟨(some 6), .mv (.tmp 10), none, []⟩])
     (.seq
      (.seq
       (.reg [
         ⟨(some 11), .mv (.tmp 5), none, []⟩])
       (.cond (.tmp 11)
        (.seq
         (.seq
          (.reg [
            ⟨(some 12), .mv (.tmp 6), none, []⟩])
          (.cond (.tmp 12)
           (.seq
            (.reg [
              ⟨(some 4), .mv (.val (.int .i64 0)), none, []⟩])
            .ret)
           .skip))
         (.seq
          (.reg [
            ⟨(some 4), .mv (.val (.int .i64 (-1))), none, []⟩])
          .ret))
        .skip))
      (.seq
       (.seq
        (.reg [
          ⟨(some 13), .mv (.tmp 6), none, []⟩])
        (.cond (.tmp 13)
         (.seq
          (.reg [
            ⟨(some 4), .mv (.val (.int .i64 1)), none, []⟩])
          .ret)
         .skip))
       (.seq
        (.seq
         (.reg [
           ⟨(some 14), .mv (.tmp 0), none, []⟩,
           ⟨(some 15), .mv (.tmp 1), none, []⟩,
           ⟨(some 16), .bin .lss (.tmp 14) (.tmp 15), none, []⟩])
         (.cond (.tmp 16)
          (.seq
           (.reg [
             ⟨(some 4), .mv (.val (.int .i64 (-1))), none, []⟩])
           .ret)
          .skip))
        (.seq
         (.seq
          (.reg [
            ⟨(some 17), .mv (.tmp 0), none, []⟩,
            ⟨(some 18), .mv (.tmp 1), none, []⟩,
            ⟨(some 19), .bin .gtr (.tmp 17) (.tmp 18), none, []⟩])
          (.cond (.tmp 19)
           (.seq
            (.reg [
              ⟨(some 4), .mv (.val (.int .i64 1)), none, []⟩])
            .ret)
           .skip))
         (.seq
          (.reg [
            ⟨(some 4), .mv (.val (.int .i64 0)), none, []⟩])
          .ret))))))))
def cA_cmp_Compare_int : AF := ⟨bA_cmp_Compare_int, 20, [.tmp 4]⟩
theorem pA_cmp_Compare_int : prepFunc Tryd.prog 41 = some cA_cmp_Compare_int ∧ hasBody Tryd.prog 41 = true := ⟨by kernel_rfl, by kernel_rfl⟩
def bA_octet_Put : AC :=
  (.seq
   (.reg [
     ⟨(some 6), .mv (.val (.slice .full 0 [])), none, []⟩])
   (.seq
    (.seq
     (.reg [
       ⟨(some 9), .mv (.tmp 2), none, []⟩,
       ⟨(some 10), .bin .lss (.tmp 9) (.val (.int .i64 1)), none, []⟩,
       ⟨(some 11), .mv (.tmp 10), none, []⟩,
       ⟨(some 12), .mv (.tmp 2), some (11, false), []⟩,
       ⟨(some 13), .bin .gtr (.tmp 12) (.val (.int .i64 4)), some (11, false), []⟩,
       ⟨(some 14), .pick (.tmp 11) (.val (.bool true)) (.tmp 13), none, []⟩])
     (.cond (.tmp 14)
      (.seq
       (.reg [
         ⟨(some 15), .mv (.tmp 0), none, []⟩,
         ⟨(some 6), .mv (.tmp 15), none, []⟩])
       .ret)
      .skip))
    (.seq
     (.reg [
       ⟨(some 16), .mv (.tmp 0), none, []⟩,
       ⟨(some 17), .mv (.tmp 0), none, []⟩,
       ⟨(some 18), .len (.tmp 17), none, []⟩,
       ⟨(some 19), .mv (.tmp 0), none, []⟩,
       ⟨(some 20), .len (.tmp 19), none, []⟩,
       ⟨(some 21), .slc 1 (.tmp 16) none (some (.tmp 18)) (some (.tmp 20)), none, []⟩,
       ⟨(some 7), .mv (.tmp 21), none, []⟩])
     (.seq
      (.seq
       (.reg [
         ⟨(some 22), .mv (.tmp 2), none, []⟩,
         ⟨(some 23), .mv (.val (.int .i64 0)), none, []⟩])
       (.block 0
        (.loop
         (.seq
          (.reg [
            ⟨(some 24), .bin .lss (.tmp 23) (.tmp 22), none, []⟩])
          (.seq
           (.cond (.tmp 24)
            .skip
            (.exit 0))
           (.seq
            (.block 1
             (.seq
              (.reg [
                ⟨(some 25), .mv (.tmp 23), none, []⟩,
                ⟨(some 8), .mv (.tmp 25), none, []⟩])
              (.reg [
                ⟨(some 26), .mv (.tmp 7), none, []⟩,
                ⟨(some 27), .mv (.tmp 1), none, []⟩,
                ⟨(some 28), .mv (.tmp 2), none, []⟩,
                ⟨(some 29), .bin .sub (.tmp 28) (.val (.int .i64 1)), none, []⟩,
                ⟨(some 30), .mv (.tmp 8), none, []⟩,
                ⟨(some 31), .bin .sub (.tmp 29) (.tmp 30), none, []⟩,
                ⟨(some 32), .bin .mul (.val (.int .i64 8)) (.tmp 31), none, []⟩,
                ⟨(some 33), .bin .shr (.tmp 27) (.tmp 32), none, []⟩,
                ⟨(some 34), .conv .u8 (.tmp 33), none, []⟩,
                ⟨(some 35), .lit 5 1 [0] [(.tmp 34)], none, []⟩,
                ⟨(some 36), .app 5 1 1 (.tmp 26) (.tmp 35), none, []⟩,
                ⟨(some 7), .mv (.tmp 36), none, []⟩])))
            (.reg [
              ⟨(some 37), .bin .add (.tmp 23) (.val (.int .i64 1)), none, []⟩,
              ⟨(some 23), .mv (.tmp 37), none, []⟩])))))))
      (.seq
       (.reg [
         ⟨(some 38), .mv (.tmp 7), none, []⟩,
         ⟨(some 6), .mv (.tmp 38), none, []⟩])
       .ret)))))
def cA_octet_Put : AF := ⟨bA_octet_Put, 39, [.tmp 6]⟩
theorem pA_octet_Put : prepFunc Tryd.prog 42 = some cA_octet_Put ∧ hasBody Tryd.prog 42 = true := ⟨by kernel_rfl, by kernel_rfl⟩
def bA_octet_Take : AC :=
  (.seq
   (.reg [
     ⟨(some 4), .mv (.val (.slice .full 0 [])), none, []⟩,
     ⟨(some 5), .mv (.val (.slice .full 0 [])), none, []⟩,
     ⟨(some 6), .mv (.val (.bool false)), none, []⟩])
   (.seq
    (.seq
     (.reg [
       ⟨(some 7), .mv (.tmp 1), none, []⟩,
       ⟨(some 8), .bin .lss (.tmp 7) (.val (.int .i64 0)), none, []⟩,
       ⟨(some 9), .mv (.tmp 8), none, []⟩,
       ⟨(some 10), .mv (.tmp 1), some (9, false), []⟩,
       ⟨(some 11), .mv (.tmp 0), some (9, false), []⟩,
       ⟨(some 12), .len (.tmp 11), some (9, false), []⟩,
       ⟨(some 13), .bin .gtr (.tmp 10) (.tmp 12), some (9, false), []⟩,
       ⟨(some 14), .pick (.tmp 9) (.val (.bool true)) (.tmp 13), none, []⟩])
     (.cond (.tmp 14)
      (.seq
       (.reg [
         ⟨(some 4), .mv (.val (.slice .full 0 [])), none, []⟩,
         ⟨(some 5), .mv (.val (.slice .full 0 [])), none, []⟩,
         ⟨(some 6), .mv (.val (.bool false)), none, []⟩])
       .ret)
      .skip))
    (.seq
     (.reg [
       ⟨(some 15), .mv (.tmp 0), none, []⟩,
       ⟨(some 16), .mv (.tmp 1), none, []⟩,
       ⟨(some 17), .mv (.tmp 1), none, []⟩,
       ⟨(some 18), .slc 1 (.tmp 15) none (some (.tmp 16)) (some (.tmp 17)), none, []⟩,
       ⟨(some 19), .mv (.tmp 0), none, []⟩,
       ⟨(some 20), .mv (.tmp 1), none, []⟩,
       ⟨(some 21), .slc 1 (.tmp 19) (some (.tmp 20)) none none, none, []⟩,
       ⟨(some 4), .mv (.tmp 18), none, []⟩,
       ⟨(some 5), .mv (.tmp 21), none, []⟩,
       ⟨(some 6), .mv (.val (.bool true)), none, []⟩])
     .ret)))
def cA_octet_Take : AF := ⟨bA_octet_Take, 22, [.tmp 4, .tmp 5, .tmp 6]⟩
theorem pA_octet_Take : prepFunc Tryd.prog 46 = some cA_octet_Take ∧ hasBody Tryd.prog 46 = true := ⟨by kernel_rfl, by kernel_rfl⟩
def bA_cmp_isNaN_int : AC :=
  (.seq
   (.reg [
     ⟨(some 2), .mv (.val (.bool false)), none, []⟩])
   (.seq
    (.reg [
      ⟨(some 3), .mv (.tmp 0), none, []⟩,
      ⟨(some 4), .mv (.tmp 0), none, []⟩,
      ⟨(some 5), .bin .neq (.tmp 3) (.tmp 4), none, []⟩,
      ⟨(some 2), .mv (.tmp 5), none, []⟩])
    .ret))
def cA_cmp_isNaN_int : AF := ⟨bA_cmp_isNaN_int, 6, [.tmp 2]⟩
theorem pA_cmp_isNaN_int : prepFunc Tryd.prog 50 = some cA_cmp_isNaN_int ∧ hasBody Tryd.prog 50 = true := ⟨by kernel_rfl, by kernel_rfl⟩
def tabA : Tab := [(10, cA_ridgewaylaw02_awake), (11, cA_prefix_Get), (13, cA_prefix_All), (15, cA_prefix_Read), (18, cA_prefix_Mask), (20, cA_prefix_Sane), (22, cA_prefix_Has), (24, cA_prefix_Compare), (26, cA_prefix_Put), (28, cA_prefix_Text), (30, cA_octet_Get), (31, cA_prefix_size), (34, cA_prefix_number), (40, cA_cmp_Or_int), (41, cA_cmp_Compare_int), (42, cA_octet_Put), (46, cA_octet_Take), (50, cA_cmp_isNaN_int)]
theorem tabA_ok : Tab.Ok Tryd.prog tabA := ⟨pA_ridgewaylaw02_awake, pA_prefix_Get, pA_prefix_All, pA_prefix_Read, pA_prefix_Mask, pA_prefix_Sane, pA_prefix_Has, pA_prefix_Compare, pA_prefix_Put, pA_prefix_Text, pA_octet_Get, pA_prefix_size, pA_prefix_number, pA_cmp_Or_int, pA_cmp_Compare_int, pA_octet_Put, pA_octet_Take, pA_cmp_isNaN_int, trivial⟩
end Go.Proofs.YtppekacobjdhnaaDoor
