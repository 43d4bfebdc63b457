/- A cut around one long region: of the frame behind it the first slots and one more are known. -/
import Derived.Test.YtkinkdgnephcbaaTrBe
import Derived.Test.YtkinkdgnephcbaaChopK
import Derived.Deep.Cut
namespace Go.Proofs.Ytkinkdgnephcbaa.Chop
open Go.RowKit
set_option linter.unusedVariables false
theorem unconsB {L : List Value} {n : Nat} (h : L.length = n + 1) : ∃ a l, L = a :: l ∧ l.length = n := by
  cases L with
  | nil => simp at h
  | cons a l => exact ⟨a, l, rfl, by simpa using h⟩
theorem keep_one {T : Array Value} {i j : Nat} {v : Value} {x : Option Value} (h : T[i]? = x) (hj : j ≠ i) : (T.setIfInBounds j v)[i]? = x := (at_ne T j i v hj).trans h
theorem keep_set {T T0 : Array Value} {m j : Nat} {v : Value} (h : Hid (∀ i, i < m → T[i]? = T0[i]?)) (hj : m ≤ j) : Hid (∀ i, i < m → (T.setIfInBounds j v)[i]? = T0[i]?) :=
  Lib.hid (fun i hi => (at_ne T j i v (by omega)).trans (h.out i hi))
set_option maxRecDepth 100000 in
set_option maxHeartbeats 3200000 in
theorem cut134 {a0 a1 a2 a3 a4 a5 a6 a7 a8 a9 a10 a11 a12 a13 a14 a15 a16 a17 a18 a19 a20 a21 a22 a23 a24 a25 a26 a27 a28 a29 a30 a31 a32 a33 a34 a35 a36 a37 a38 a39 a40 a41 a42 a43 a44 a45 a46 a47 a48 a49 a50 a51 a52 a53 a54 a55 a56 a57 a58 a59 a60 a61 a62 a63 a64 a65 a66 a67 a68 a69 a70 a71 a72 a73 a74 a75 a76 a77 a78 a79 a80 a81 a82 a83 a84 a85 a86 a87 a88 a89 a90 a91 a92 a93 a94 a95 a96 a97 a98 a99 a100 a101 a102 a103 a104 a105 a106 a107 a108 a109 a110 a111 a112 a113 a114 a115 a116 a117 a118 a119 a120 a121 a122 a123 a124 a125 a126 a127 a128 a129 a130 a131 a132 a133 : Value} {P : Program} {s : Code} {K : Act → World → Prop} {Q' : Exit → Act → World → Prop} {d : List Deferred} {w : World} (V : Bool)
    (rest : ∀ u37 u38 u39 u40 u41 u42 u43 u44 u45 u46 u47 u48 u49 u50 u51 u52 u53 u54 u55 u56 u57 u58 u59 u60 u61 u62 u63 u64 u65 u66 u67 u68 u69 u70 u71 u72 u73 u74 u75 u76 u77 u78 u79 u80 u81 u82 u83 u84 u85 u86 u87 u88 u89 u90 u91 u92 u93 u94 u95 u96 u97 u98 u99 u100 u101 u102 u103 u104 u105 u106 u107 u108 u109 u110 u111 u112 u113 u114 u115 u116 u117 u118 u119 u120 u121 u122 u123 u124 u125 u126 u127 u128 u129 u131 u132 u133 : Value, K ⟨#[a0, a1, a2, a3, a4, a5, a6, a7, a8, a9, a10, a11, a12, a13, a14, a15, a16, a17, a18, a19, a20, a21, a22, a23, a24, a25, a26, a27, a28, a29, a30, a31, a32, a33, a34, a35, a36, u37, u38, u39, u40, u41, u42, u43, u44, u45, u46, u47, u48, u49, u50, u51, u52, u53, u54, u55, u56, u57, u58, u59, u60, u61, u62, u63, u64, u65, u66, u67, u68, u69, u70, u71, u72, u73, u74, u75, u76, u77, u78, u79, u80, u81, u82, u83, u84, u85, u86, u87, u88, u89, u90, u91, u92, u93, u94, u95, u96, u97, u98, u99, u100, u101, u102, u103, u104, u105, u106, u107, u108, u109, u110, u111, u112, u113, u114, u115, u116, u117, u118, u119, u120, u121, u122, u123, u124, u125, u126, u127, u128, u129, .bool V, u131, u132, u133], d⟩ w)
    (first : ∀ (T0 : Array Value) (W : World) (Q : Exit → Act → World → Prop), T0 = #[a0, a1, a2, a3, a4, a5, a6, a7, a8, a9, a10, a11, a12, a13, a14, a15, a16, a17, a18, a19, a20, a21, a22, a23, a24, a25, a26, a27, a28, a29, a30, a31, a32, a33, a34, a35, a36, a37, a38, a39, a40, a41, a42, a43, a44, a45, a46, a47, a48, a49, a50, a51, a52, a53, a54, a55, a56, a57, a58, a59, a60, a61, a62, a63, a64, a65, a66, a67, a68, a69, a70, a71, a72, a73, a74, a75, a76, a77, a78, a79, a80, a81, a82, a83, a84, a85, a86, a87, a88, a89, a90, a91, a92, a93, a94, a95, a96, a97, a98, a99, a100, a101, a102, a103, a104, a105, a106, a107, a108, a109, a110, a111, a112, a113, a114, a115, a116, a117, a118, a119, a120, a121, a122, a123, a124, a125, a126, a127, a128, a129, a130, a131, a132, a133] → W = w → (∀ T' : Array Value, T'.size = 134 → Hid (∀ i, i < 37 → T'[i]? = T0[i]?) → T'[130]? = some (.bool V) → Q .normal ⟨T', d⟩ W) → s.wp P Q ⟨T0, d⟩ W) :
    s.wp P (Exit.then K Q') ⟨#[a0, a1, a2, a3, a4, a5, a6, a7, a8, a9, a10, a11, a12, a13, a14, a15, a16, a17, a18, a19, a20, a21, a22, a23, a24, a25, a26, a27, a28, a29, a30, a31, a32, a33, a34, a35, a36, a37, a38, a39, a40, a41, a42, a43, a44, a45, a46, a47, a48, a49, a50, a51, a52, a53, a54, a55, a56, a57, a58, a59, a60, a61, a62, a63, a64, a65, a66, a67, a68, a69, a70, a71, a72, a73, a74, a75, a76, a77, a78, a79, a80, a81, a82, a83, a84, a85, a86, a87, a88, a89, a90, a91, a92, a93, a94, a95, a96, a97, a98, a99, a100, a101, a102, a103, a104, a105, a106, a107, a108, a109, a110, a111, a112, a113, a114, a115, a116, a117, a118, a119, a120, a121, a122, a123, a124, a125, a126, a127, a128, a129, a130, a131, a132, a133], d⟩ w := by
  refine wp_cut (fun a' w' => w' = w ∧ ∃ T' : Array Value, a' = ⟨T', d⟩ ∧ T'.size = 134 ∧ (∀ i, i < 37 → T'[i]? = (#[a0, a1, a2, a3, a4, a5, a6, a7, a8, a9, a10, a11, a12, a13, a14, a15, a16, a17, a18, a19, a20, a21, a22, a23, a24, a25, a26, a27, a28, a29, a30, a31, a32, a33, a34, a35, a36, a37, a38, a39, a40, a41, a42, a43, a44, a45, a46, a47, a48, a49, a50, a51, a52, a53, a54, a55, a56, a57, a58, a59, a60, a61, a62, a63, a64, a65, a66, a67, a68, a69, a70, a71, a72, a73, a74, a75, a76, a77, a78, a79, a80, a81, a82, a83, a84, a85, a86, a87, a88, a89, a90, a91, a92, a93, a94, a95, a96, a97, a98, a99, a100, a101, a102, a103, a104, a105, a106, a107, a108, a109, a110, a111, a112, a113, a114, a115, a116, a117, a118, a119, a120, a121, a122, a123, a124, a125, a126, a127, a128, a129, a130, a131, a132, a133] : Array Value)[i]?) ∧ T'[130]? = some (.bool V)) ?_ ?_
  · rintro a' w' ⟨rfl, T, rfl, hs, hk, hv⟩
    clear first
    obtain ⟨L0, rfl⟩ : ∃ L : List Value, T = L.toArray := ⟨T.toList, by simp⟩
    have hL0 : L0.length = 134 := by simpa using hs
    clear hs
    obtain ⟨t0, L1, rfl, hL1⟩ := unconsB hL0
    clear hL0
    obtain ⟨t1, L2, rfl, hL2⟩ := unconsB hL1
    clear hL1
    obtain ⟨t2, L3, rfl, hL3⟩ := unconsB hL2
    clear hL2
    obtain ⟨t3, L4, rfl, hL4⟩ := unconsB hL3
    clear hL3
    obtain ⟨t4, L5, rfl, hL5⟩ := unconsB hL4
    clear hL4
    obtain ⟨t5, L6, rfl, hL6⟩ := unconsB hL5
    clear hL5
    obtain ⟨t6, L7, rfl, hL7⟩ := unconsB hL6
    clear hL6
    obtain ⟨t7, L8, rfl, hL8⟩ := unconsB hL7
    clear hL7
    obtain ⟨t8, L9, rfl, hL9⟩ := unconsB hL8
    clear hL8
    obtain ⟨t9, L10, rfl, hL10⟩ := unconsB hL9
    clear hL9
    obtain ⟨t10, L11, rfl, hL11⟩ := unconsB hL10
    clear hL10
    obtain ⟨t11, L12, rfl, hL12⟩ := unconsB hL11
    clear hL11
    obtain ⟨t12, L13, rfl, hL13⟩ := unconsB hL12
    clear hL12
    obtain ⟨t13, L14, rfl, hL14⟩ := unconsB hL13
    clear hL13
    obtain ⟨t14, L15, rfl, hL15⟩ := unconsB hL14
    clear hL14
    obtain ⟨t15, L16, rfl, hL16⟩ := unconsB hL15
    clear hL15
    obtain ⟨t16, L17, rfl, hL17⟩ := unconsB hL16
    clear hL16
    obtain ⟨t17, L18, rfl, hL18⟩ := unconsB hL17
    clear hL17
    obtain ⟨t18, L19, rfl, hL19⟩ := unconsB hL18
    clear hL18
    obtain ⟨t19, L20, rfl, hL20⟩ := unconsB hL19
    clear hL19
    obtain ⟨t20, L21, rfl, hL21⟩ := unconsB hL20
    clear hL20
    obtain ⟨t21, L22, rfl, hL22⟩ := unconsB hL21
    clear hL21
    obtain ⟨t22, L23, rfl, hL23⟩ := unconsB hL22
    clear hL22
    obtain ⟨t23, L24, rfl, hL24⟩ := unconsB hL23
    clear hL23
    obtain ⟨t24, L25, rfl, hL25⟩ := unconsB hL24
    clear hL24
    obtain ⟨t25, L26, rfl, hL26⟩ := unconsB hL25
    clear hL25
    obtain ⟨t26, L27, rfl, hL27⟩ := unconsB hL26
    clear hL26
    obtain ⟨t27, L28, rfl, hL28⟩ := unconsB hL27
    clear hL27
    obtain ⟨t28, L29, rfl, hL29⟩ := unconsB hL28
    clear hL28
    obtain ⟨t29, L30, rfl, hL30⟩ := unconsB hL29
    clear hL29
    obtain ⟨t30, L31, rfl, hL31⟩ := unconsB hL30
    clear hL30
    obtain ⟨t31, L32, rfl, hL32⟩ := unconsB hL31
    clear hL31
    obtain ⟨t32, L33, rfl, hL33⟩ := unconsB hL32
    clear hL32
    obtain ⟨t33, L34, rfl, hL34⟩ := unconsB hL33
    clear hL33
    obtain ⟨t34, L35, rfl, hL35⟩ := unconsB hL34
    clear hL34
    obtain ⟨t35, L36, rfl, hL36⟩ := unconsB hL35
    clear hL35
    obtain ⟨t36, L37, rfl, hL37⟩ := unconsB hL36
    clear hL36
    obtain ⟨t37, L38, rfl, hL38⟩ := unconsB hL37
    clear hL37
    obtain ⟨t38, L39, rfl, hL39⟩ := unconsB hL38
    clear hL38
    obtain ⟨t39, L40, rfl, hL40⟩ := unconsB hL39
    clear hL39
    obtain ⟨t40, L41, rfl, hL41⟩ := unconsB hL40
    clear hL40
    obtain ⟨t41, L42, rfl, hL42⟩ := unconsB hL41
    clear hL41
    obtain ⟨t42, L43, rfl, hL43⟩ := unconsB hL42
    clear hL42
    obtain ⟨t43, L44, rfl, hL44⟩ := unconsB hL43
    clear hL43
    obtain ⟨t44, L45, rfl, hL45⟩ := unconsB hL44
    clear hL44
    obtain ⟨t45, L46, rfl, hL46⟩ := unconsB hL45
    clear hL45
    obtain ⟨t46, L47, rfl, hL47⟩ := unconsB hL46
    clear hL46
    obtain ⟨t47, L48, rfl, hL48⟩ := unconsB hL47
    clear hL47
    obtain ⟨t48, L49, rfl, hL49⟩ := unconsB hL48
    clear hL48
    obtain ⟨t49, L50, rfl, hL50⟩ := unconsB hL49
    clear hL49
    obtain ⟨t50, L51, rfl, hL51⟩ := unconsB hL50
    clear hL50
    obtain ⟨t51, L52, rfl, hL52⟩ := unconsB hL51
    clear hL51
    obtain ⟨t52, L53, rfl, hL53⟩ := unconsB hL52
    clear hL52
    obtain ⟨t53, L54, rfl, hL54⟩ := unconsB hL53
    clear hL53
    obtain ⟨t54, L55, rfl, hL55⟩ := unconsB hL54
    clear hL54
    obtain ⟨t55, L56, rfl, hL56⟩ := unconsB hL55
    clear hL55
    obtain ⟨t56, L57, rfl, hL57⟩ := unconsB hL56
    clear hL56
    obtain ⟨t57, L58, rfl, hL58⟩ := unconsB hL57
    clear hL57
    obtain ⟨t58, L59, rfl, hL59⟩ := unconsB hL58
    clear hL58
    obtain ⟨t59, L60, rfl, hL60⟩ := unconsB hL59
    clear hL59
    obtain ⟨t60, L61, rfl, hL61⟩ := unconsB hL60
    clear hL60
    obtain ⟨t61, L62, rfl, hL62⟩ := unconsB hL61
    clear hL61
    obtain ⟨t62, L63, rfl, hL63⟩ := unconsB hL62
    clear hL62
    obtain ⟨t63, L64, rfl, hL64⟩ := unconsB hL63
    clear hL63
    obtain ⟨t64, L65, rfl, hL65⟩ := unconsB hL64
    clear hL64
    obtain ⟨t65, L66, rfl, hL66⟩ := unconsB hL65
    clear hL65
    obtain ⟨t66, L67, rfl, hL67⟩ := unconsB hL66
    clear hL66
    obtain ⟨t67, L68, rfl, hL68⟩ := unconsB hL67
    clear hL67
    obtain ⟨t68, L69, rfl, hL69⟩ := unconsB hL68
    clear hL68
    obtain ⟨t69, L70, rfl, hL70⟩ := unconsB hL69
    clear hL69
    obtain ⟨t70, L71, rfl, hL71⟩ := unconsB hL70
    clear hL70
    obtain ⟨t71, L72, rfl, hL72⟩ := unconsB hL71
    clear hL71
    obtain ⟨t72, L73, rfl, hL73⟩ := unconsB hL72
    clear hL72
    obtain ⟨t73, L74, rfl, hL74⟩ := unconsB hL73
    clear hL73
    obtain ⟨t74, L75, rfl, hL75⟩ := unconsB hL74
    clear hL74
    obtain ⟨t75, L76, rfl, hL76⟩ := unconsB hL75
    clear hL75
    obtain ⟨t76, L77, rfl, hL77⟩ := unconsB hL76
    clear hL76
    obtain ⟨t77, L78, rfl, hL78⟩ := unconsB hL77
    clear hL77
    obtain ⟨t78, L79, rfl, hL79⟩ := unconsB hL78
    clear hL78
    obtain ⟨t79, L80, rfl, hL80⟩ := unconsB hL79
    clear hL79
    obtain ⟨t80, L81, rfl, hL81⟩ := unconsB hL80
    clear hL80
    obtain ⟨t81, L82, rfl, hL82⟩ := unconsB hL81
    clear hL81
    obtain ⟨t82, L83, rfl, hL83⟩ := unconsB hL82
    clear hL82
    obtain ⟨t83, L84, rfl, hL84⟩ := unconsB hL83
    clear hL83
    obtain ⟨t84, L85, rfl, hL85⟩ := unconsB hL84
    clear hL84
    obtain ⟨t85, L86, rfl, hL86⟩ := unconsB hL85
    clear hL85
    obtain ⟨t86, L87, rfl, hL87⟩ := unconsB hL86
    clear hL86
    obtain ⟨t87, L88, rfl, hL88⟩ := unconsB hL87
    clear hL87
    obtain ⟨t88, L89, rfl, hL89⟩ := unconsB hL88
    clear hL88
    obtain ⟨t89, L90, rfl, hL90⟩ := unconsB hL89
    clear hL89
    obtain ⟨t90, L91, rfl, hL91⟩ := unconsB hL90
    clear hL90
    obtain ⟨t91, L92, rfl, hL92⟩ := unconsB hL91
    clear hL91
    obtain ⟨t92, L93, rfl, hL93⟩ := unconsB hL92
    clear hL92
    obtain ⟨t93, L94, rfl, hL94⟩ := unconsB hL93
    clear hL93
    obtain ⟨t94, L95, rfl, hL95⟩ := unconsB hL94
    clear hL94
    obtain ⟨t95, L96, rfl, hL96⟩ := unconsB hL95
    clear hL95
    obtain ⟨t96, L97, rfl, hL97⟩ := unconsB hL96
    clear hL96
    obtain ⟨t97, L98, rfl, hL98⟩ := unconsB hL97
    clear hL97
    obtain ⟨t98, L99, rfl, hL99⟩ := unconsB hL98
    clear hL98
    obtain ⟨t99, L100, rfl, hL100⟩ := unconsB hL99
    clear hL99
    obtain ⟨t100, L101, rfl, hL101⟩ := unconsB hL100
    clear hL100
    obtain ⟨t101, L102, rfl, hL102⟩ := unconsB hL101
    clear hL101
    obtain ⟨t102, L103, rfl, hL103⟩ := unconsB hL102
    clear hL102
    obtain ⟨t103, L104, rfl, hL104⟩ := unconsB hL103
    clear hL103
    obtain ⟨t104, L105, rfl, hL105⟩ := unconsB hL104
    clear hL104
    obtain ⟨t105, L106, rfl, hL106⟩ := unconsB hL105
    clear hL105
    obtain ⟨t106, L107, rfl, hL107⟩ := unconsB hL106
    clear hL106
    obtain ⟨t107, L108, rfl, hL108⟩ := unconsB hL107
    clear hL107
    obtain ⟨t108, L109, rfl, hL109⟩ := unconsB hL108
    clear hL108
    obtain ⟨t109, L110, rfl, hL110⟩ := unconsB hL109
    clear hL109
    obtain ⟨t110, L111, rfl, hL111⟩ := unconsB hL110
    clear hL110
    obtain ⟨t111, L112, rfl, hL112⟩ := unconsB hL111
    clear hL111
    obtain ⟨t112, L113, rfl, hL113⟩ := unconsB hL112
    clear hL112
    obtain ⟨t113, L114, rfl, hL114⟩ := unconsB hL113
    clear hL113
    obtain ⟨t114, L115, rfl, hL115⟩ := unconsB hL114
    clear hL114
    obtain ⟨t115, L116, rfl, hL116⟩ := unconsB hL115
    clear hL115
    obtain ⟨t116, L117, rfl, hL117⟩ := unconsB hL116
    clear hL116
    obtain ⟨t117, L118, rfl, hL118⟩ := unconsB hL117
    clear hL117
    obtain ⟨t118, L119, rfl, hL119⟩ := unconsB hL118
    clear hL118
    obtain ⟨t119, L120, rfl, hL120⟩ := unconsB hL119
    clear hL119
    obtain ⟨t120, L121, rfl, hL121⟩ := unconsB hL120
    clear hL120
    obtain ⟨t121, L122, rfl, hL122⟩ := unconsB hL121
    clear hL121
    obtain ⟨t122, L123, rfl, hL123⟩ := unconsB hL122
    clear hL122
    obtain ⟨t123, L124, rfl, hL124⟩ := unconsB hL123
    clear hL123
    obtain ⟨t124, L125, rfl, hL125⟩ := unconsB hL124
    clear hL124
    obtain ⟨t125, L126, rfl, hL126⟩ := unconsB hL125
    clear hL125
    obtain ⟨t126, L127, rfl, hL127⟩ := unconsB hL126
    clear hL126
    obtain ⟨t127, L128, rfl, hL128⟩ := unconsB hL127
    clear hL127
    obtain ⟨t128, L129, rfl, hL129⟩ := unconsB hL128
    clear hL128
    obtain ⟨t129, L130, rfl, hL130⟩ := unconsB hL129
    clear hL129
    obtain ⟨t130, L131, rfl, hL131⟩ := unconsB hL130
    clear hL130
    obtain ⟨t131, L132, rfl, hL132⟩ := unconsB hL131
    clear hL131
    obtain ⟨t132, L133, rfl, hL133⟩ := unconsB hL132
    clear hL132
    obtain ⟨t133, L134, rfl, hL134⟩ := unconsB hL133
    clear hL133
    obtain rfl : L134 = [] := List.length_eq_zero_iff.1 hL134
    have e0 : t0 = a0 := Option.some.inj (hk 0 (by decide))
    have e1 : t1 = a1 := Option.some.inj (hk 1 (by decide))
    have e2 : t2 = a2 := Option.some.inj (hk 2 (by decide))
    have e3 : t3 = a3 := Option.some.inj (hk 3 (by decide))
    have e4 : t4 = a4 := Option.some.inj (hk 4 (by decide))
    have e5 : t5 = a5 := Option.some.inj (hk 5 (by decide))
    have e6 : t6 = a6 := Option.some.inj (hk 6 (by decide))
    have e7 : t7 = a7 := Option.some.inj (hk 7 (by decide))
    have e8 : t8 = a8 := Option.some.inj (hk 8 (by decide))
    have e9 : t9 = a9 := Option.some.inj (hk 9 (by decide))
    have e10 : t10 = a10 := Option.some.inj (hk 10 (by decide))
    have e11 : t11 = a11 := Option.some.inj (hk 11 (by decide))
    have e12 : t12 = a12 := Option.some.inj (hk 12 (by decide))
    have e13 : t13 = a13 := Option.some.inj (hk 13 (by decide))
    have e14 : t14 = a14 := Option.some.inj (hk 14 (by decide))
    have e15 : t15 = a15 := Option.some.inj (hk 15 (by decide))
    have e16 : t16 = a16 := Option.some.inj (hk 16 (by decide))
    have e17 : t17 = a17 := Option.some.inj (hk 17 (by decide))
    have e18 : t18 = a18 := Option.some.inj (hk 18 (by decide))
    have e19 : t19 = a19 := Option.some.inj (hk 19 (by decide))
    have e20 : t20 = a20 := Option.some.inj (hk 20 (by decide))
    have e21 : t21 = a21 := Option.some.inj (hk 21 (by decide))
    have e22 : t22 = a22 := Option.some.inj (hk 22 (by decide))
    have e23 : t23 = a23 := Option.some.inj (hk 23 (by decide))
    have e24 : t24 = a24 := Option.some.inj (hk 24 (by decide))
    have e25 : t25 = a25 := Option.some.inj (hk 25 (by decide))
    have e26 : t26 = a26 := Option.some.inj (hk 26 (by decide))
    have e27 : t27 = a27 := Option.some.inj (hk 27 (by decide))
    have e28 : t28 = a28 := Option.some.inj (hk 28 (by decide))
    have e29 : t29 = a29 := Option.some.inj (hk 29 (by decide))
    have e30 : t30 = a30 := Option.some.inj (hk 30 (by decide))
    have e31 : t31 = a31 := Option.some.inj (hk 31 (by decide))
    have e32 : t32 = a32 := Option.some.inj (hk 32 (by decide))
    have e33 : t33 = a33 := Option.some.inj (hk 33 (by decide))
    have e34 : t34 = a34 := Option.some.inj (hk 34 (by decide))
    have e35 : t35 = a35 := Option.some.inj (hk 35 (by decide))
    have e36 : t36 = a36 := Option.some.inj (hk 36 (by decide))
    have ev : t130 = .bool V := Option.some.inj hv
    clear hk hv
    subst e0 e1 e2 e3 e4 e5 e6 e7 e8 e9 e10 e11 e12 e13 e14 e15 e16 e17 e18 e19 e20 e21 e22 e23 e24 e25 e26 e27 e28 e29 e30 e31 e32 e33 e34 e35 e36 ev
    exact rest t37 t38 t39 t40 t41 t42 t43 t44 t45 t46 t47 t48 t49 t50 t51 t52 t53 t54 t55 t56 t57 t58 t59 t60 t61 t62 t63 t64 t65 t66 t67 t68 t69 t70 t71 t72 t73 t74 t75 t76 t77 t78 t79 t80 t81 t82 t83 t84 t85 t86 t87 t88 t89 t90 t91 t92 t93 t94 t95 t96 t97 t98 t99 t100 t101 t102 t103 t104 t105 t106 t107 t108 t109 t110 t111 t112 t113 t114 t115 t116 t117 t118 t119 t120 t121 t122 t123 t124 t125 t126 t127 t128 t129 t131 t132 t133
  · intro J K' h1 h2
    exact first _ _ _ rfl rfl (fun T' hs hk hv => h2 _ _ (h1 _ _ ⟨rfl, T', rfl, hs, hk.out, hv⟩))
end Go.Proofs.Ytkinkdgnephcbaa.Chop
