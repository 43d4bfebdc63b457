package tests

import (
	"fmt"
	"math"
	"math/rand"
	"regexp"
	"slices"
	"strconv"
	"strings"
	"sync"
	"testing"

	"loop.example/g00661/impl"
)

const (
	esc = "\x1b"
	csi = "\x1b["
)

func plainVp(part string) impl.Vp { return impl.Vp{Part: []byte(part)} }

func csiVp(mark bool, args ...int) impl.Vp {
	return impl.Vp{State: impl.VpCsi, Mark: mark, Args: args}
}

func skipVp(mark bool, args ...int) impl.Vp {
	return impl.Vp{State: impl.VpSkip, Mark: mark, Args: args}
}

func runeAct(r int) impl.Act { return impl.Act{Kind: impl.ActRune, R: r} }

func ctlAct(b int) impl.Act { return impl.Act{Kind: impl.ActCtl, R: b} }

func escAct(b int) impl.Act { return impl.Act{Kind: impl.ActEsc, R: b} }

func csiAct(mark bool, b int, args ...int) impl.Act {
	return impl.Act{Kind: impl.ActCsi, R: b, Mark: mark, Args: args}
}

func runeActs(text string) []impl.Act {
	var l []impl.Act
	for _, r := range text {
		l = append(l, runeAct(int(r)))
	}
	return l
}

func deepVp(p impl.Vp) impl.Vp {
	p.Args = slices.Clone(p.Args)
	p.Part = slices.Clone(p.Part)
	return p
}

func deepActs(l []impl.Act) []impl.Act {
	l = slices.Clone(l)
	for i := range l {
		l[i].Args = slices.Clone(l[i].Args)
	}
	return l
}

func equalVps(a, b impl.Vp) bool {
	return a.State == b.State && a.Mark == b.Mark && slices.Equal(a.Args, b.Args) && string(a.Part) == string(b.Part)
}

func equalActs(a, b impl.Act) bool {
	return a.Kind == b.Kind && a.R == b.R && a.Mark == b.Mark && slices.Equal(a.Args, b.Args)
}

func wantVp(t *testing.T, what string, got, want impl.Vp) {
	t.Helper()
	if !equalVps(got, want) {
		t.Errorf("%s: the parser state is %+v; want %+v", what, got, want)
	}
}

func wantActs(t *testing.T, what string, got, want []impl.Act) {
	t.Helper()
	if !slices.EqualFunc(got, want, equalActs) {
		t.Errorf("%s: the acts are %+v; want %+v", what, got, want)
	}
}

func wantByte(t *testing.T, p impl.Vp, b int, want impl.Vp, act impl.Act) {
	t.Helper()
	got, gotAct := impl.VpByte(p, b)
	what := fmt.Sprintf("VpByte(%+v, %d)", p, b)
	wantVp(t, what, got, want)
	wantActs(t, what, []impl.Act{gotAct}, []impl.Act{act})
}

// wantBytes expects of a text that it leads from one parser state to another with these acts.
func wantBytes(t *testing.T, from impl.Vp, text string, to impl.Vp, acts ...impl.Act) {
	t.Helper()
	got, gotActs := impl.VpBytes(from, []byte(text))
	what := fmt.Sprintf("VpBytes(%+v, %q)", from, text)
	wantVp(t, what, got, to)
	wantActs(t, what, gotActs, acts)
}

// wantParsed expects these acts of a text that begins and ends in the initial state.
func wantParsed(t *testing.T, text string, acts ...impl.Act) {
	t.Helper()
	wantBytes(t, impl.Vp{}, text, impl.Vp{}, acts...)
}

// modelCodes are the runes of all encodings, and all proper prefixes of these.
type modelCodes struct {
	runes  map[string]int
	begins map[string]bool
}

var allCodes = sync.OnceValue(func() modelCodes {
	c := modelCodes{map[string]int{}, map[string]bool{}}
	for _, r := range printableRunes() {
		s := modelRune(r)
		c.runes[s] = r
		for end := 1; end < len(s); end++ {
			c.begins[s[:end]] = true
		}
	}
	return c
})

func allBytes() []int {
	var l []int
	for b := range 256 {
		l = append(l, b)
	}
	return l
}

// notBytes are ints beside the bytes, among them some that are bytes with a meaning if only their lower bits count.
func notBytes() []int {
	return append(extremeInts(), -1, -2, -27, -128, -229, -255, -256, 256, 257, 256+10, 256+27, 256+65, 256+91, 512+48, 1<<16+65, 1<<32+27, 1<<32+65, 1<<62+10)
}

func someParts() []string {
	return []string{"", "\xc2", "\xc3", "\xdf", "\xe0", "\xe0\xa0", "\xe4", "\xe4\xb8", "\xed", "\xed\x9f", "\xef", "\xef\xbf"}
}

func badParts() []string {
	return []string{
		"a", " ", "\x1b", "\x00", "\x80", "\xbf", "\xc0", "\xc1", "\xc3\xa9", "\xc3\xc3", "\xc3a", "a\xc3", "\xe0\x80", "\xe4\xb8\xad", "\xe4a", "\xe4\xb8\xad\xe4",
		"\xed\xa0", "\xf0", "\xf0\x9f", "\xf4\x8f\xbf", "\xff", strings.Repeat("\xe4", 50),
	}
}

func someArgs() [][]int {
	return [][]int{
		nil, {}, {0}, {1}, {7}, {9}, {99}, {123}, {999}, {1000}, {9989}, {9990}, {9998}, {9999}, {0, 0}, {5, 0}, {0, 5}, {9999, 12}, {12, 9999}, {1, 2, 3},
		{1, 2, 3, 4, 5, 6}, {1, 2, 3, 4, 5, 6, 7}, {1, 2, 3, 4, 5, 6, 7, 8}, {0, 0, 0, 0, 0, 0, 0, 0}, {1, 2, 3, 4, 5, 6, 7, 1000}, slices.Repeat([]int{9999}, 8),
	}
}

func badArgs() [][]int {
	return [][]int{
		{-1}, {10000}, {-1, 0}, {0, -1}, {0, 10000}, {10000, 0}, {1, 2, -1, 4}, {0, 0, 0, 0, 0, 0, 0, -1}, {0, 0, 0, 0, 0, 0, 0, 10000}, {1<<32 + 1}, {math.MaxInt}, {math.MinInt},
		{-5, 10005}, {1, 2, 3, 4, 5, 6, 7, 8, 9}, make([]int, 9), slices.Repeat([]int{9999}, 9), make([]int, 100), slices.Repeat([]int{-1}, 9),
	}
}

func validVps() []impl.Vp {
	l := []impl.Vp{{State: impl.VpEsc}}
	for _, part := range someParts() {
		l = append(l, plainVp(part))
	}
	for _, args := range someArgs() {
		l = append(l, csiVp(false, args...), csiVp(true, args...), skipVp(false, args...), skipVp(true, args...))
	}
	return l
}

func invalidVps() []impl.Vp {
	var l []impl.Vp
	for _, state := range append(extremeInts(), -1, -2, -3, 4, 5, 6, 91, 256, 256+2, 1<<32+2) {
		l = append(l, impl.Vp{State: state}, impl.Vp{State: state, Mark: true, Args: []int{1}}, impl.Vp{State: state, Part: []byte("\xc3")})
	}
	for _, state := range []int{impl.VpPlain, impl.VpEsc} {
		l = append(l, impl.Vp{State: state, Mark: true})
		for _, args := range slices.Concat(someArgs()[2:], badArgs()) {
			l = append(l, impl.Vp{State: state, Args: args}, impl.Vp{State: state, Mark: true, Args: args})
		}
	}
	l = append(l, impl.Vp{Mark: true, Part: []byte("\xc3")}, impl.Vp{Args: []int{0}, Part: []byte("\xc3")})
	for _, state := range []int{impl.VpEsc, impl.VpCsi, impl.VpSkip} {
		for _, part := range slices.Concat(someParts()[1:], badParts()) {
			l = append(l, impl.Vp{State: state, Part: []byte(part)})
		}
	}
	for _, part := range badParts() {
		l = append(l, plainVp(part))
	}
	for _, args := range badArgs() {
		l = append(l, csiVp(false, args...), csiVp(true, args...), skipVp(false, args...), skipVp(true, args...))
	}
	return append(l, impl.Vp{State: impl.VpCsi, Args: []int{1}, Part: []byte("\xe4")}, impl.Vp{State: impl.VpSkip, Mark: true, Part: []byte("a")})
}

// modelVpOk looks a Part up in the list of all beginnings.
func modelVpOk(p impl.Vp) bool {
	argsOk := len(p.Args) <= 8
	for _, arg := range p.Args {
		argsOk = argsOk && arg >= 0 && arg <= 9999
	}
	switch p.State {
	case 0:
		return !p.Mark && len(p.Args) == 0 && (len(p.Part) == 0 || allCodes().begins[string(p.Part)])
	case 1:
		return !p.Mark && len(p.Args) == 0 && len(p.Part) == 0
	case 2, 3:
		return argsOk && len(p.Part) == 0
	}
	return false
}

func TestParserConstants(t *testing.T) {
	states := []int{impl.VpPlain, impl.VpEsc, impl.VpCsi, impl.VpSkip}
	kinds := []int{impl.ActNone, impl.ActRune, impl.ActCtl, impl.ActEsc, impl.ActCsi}
	if !slices.Equal(states, []int{0, 1, 2, 3}) || !slices.Equal(kinds, []int{0, 1, 2, 3, 4}) || impl.MaxArg != 9999 || impl.MaxArgs != 8 {
		t.Error("a constant of the parser has another value")
	}
}

func TestVpOk(t *testing.T) {
	for _, p := range validVps() {
		if !impl.VpOk(p) {
			t.Errorf("VpOk(%+v) is false", p)
		}
	}
	for _, p := range invalidVps() {
		if impl.VpOk(p) {
			t.Errorf("VpOk(%+v) is true", p)
		}
	}
}

func TestVpOkOfAllFieldsTogether(t *testing.T) {
	count := 0
	for _, state := range []int{-1, 0, 1, 2, 3, 4, 256, 1<<32 + 2, math.MinInt, math.MaxInt} {
		for _, mark := range []bool{false, true} {
			for _, args := range slices.Concat(someArgs(), badArgs()) {
				for _, part := range slices.Concat(someParts(), badParts()) {
					p := impl.Vp{State: state, Mark: mark, Args: args, Part: []byte(part)}
					if impl.VpOk(p) != modelVpOk(p) {
						t.Errorf("VpOk(%+v) = %v", p, !modelVpOk(p))
					}
					if modelVpOk(p) {
						count++
					}
				}
			}
		}
	}
	// The empty list of arguments is there twice.
	if want := 2*len(someParts()) + 2 + 4*len(someArgs()); count != want {
		t.Errorf("%d parser states are valid; want %d", count, want)
	}
}

func TestVpOkOfAllPartsOfUpToTwoBytes(t *testing.T) {
	for n := range 1 << 16 {
		for _, part := range []string{string([]byte{byte(n)}), string([]byte{byte(n >> 8), byte(n)})} {
			if impl.VpOk(plainVp(part)) != allCodes().begins[part] {
				t.Fatalf("VpOk with the Part % x is %v", part, !allCodes().begins[part])
			}
			if impl.VpOk(impl.Vp{State: impl.VpEsc, Part: []byte(part)}) || impl.VpOk(impl.Vp{State: impl.VpCsi, Part: []byte(part)}) {
				t.Fatalf("VpOk with the Part % x outside VpPlain is true", part)
			}
		}
	}
	for _, r := range printableRunes() {
		if impl.VpOk(plainVp(modelRune(r))) {
			t.Fatalf("VpOk with the whole rune %d as Part is true", r)
		}
	}
}

// TestBytesThatEveryStateTreatsAlike: 27 begins a sequence and 24 and 26 end one, whatever the state.
func TestBytesThatEveryStateTreatsAlike(t *testing.T) {
	for _, p := range validVps() {
		wantByte(t, p, 27, impl.Vp{State: impl.VpEsc}, impl.Act{})
		wantByte(t, p, 24, impl.Vp{}, impl.Act{})
		wantByte(t, p, 26, impl.Vp{}, impl.Act{})
	}
}

func isCommon(b int) bool { return b == 24 || b == 26 || b == 27 }

func TestPlainBytesBelow128(t *testing.T) {
	for _, part := range someParts() {
		for b := range 128 {
			switch {
			case isCommon(b):
			case b < 32 || b == 127:
				wantByte(t, plainVp(part), b, impl.Vp{}, ctlAct(b))
			default:
				wantByte(t, plainVp(part), b, impl.Vp{}, runeAct(b))
			}
		}
	}
}

func TestRunesOfSeveralBytes(t *testing.T) {
	for _, r := range printableRunes() {
		s := modelRune(r)
		p := impl.Vp{}
		for i := range len(s) - 1 {
			wantByte(t, p, int(s[i]), plainVp(s[:i+1]), impl.Act{})
			p = plainVp(s[:i+1])
		}
		wantByte(t, p, int(s[len(s)-1]), impl.Vp{}, runeAct(r))
		if t.Failed() {
			t.Fatalf("the rune %d", r)
		}
	}
}

func TestBrokenRunes(t *testing.T) {
	const bad = 65533
	for _, b := range []int{128, 143, 144, 159, 160, 191, 192, 193, 240, 244, 245, 254, 255} {
		wantByte(t, impl.Vp{}, b, impl.Vp{}, runeAct(bad))
	}
	cases := []struct {
		part string
		b    int
	}{
		// Complete, but not printable.
		{"\xc2", 0x80}, {"\xc2", 0x85}, {"\xc2", 0x9b}, {"\xc2", 0x9f},
		// Longer than necessary, and surrogates.
		{"\xe0", 0x80}, {"\xe0", 0x9f}, {"\xed", 0xa0}, {"\xed", 0xbf},
		// They continue nothing. A lead is lost together with what it interrupts.
		{"\xc3", 0xc3}, {"\xc3", 0xe4}, {"\xc3", 0xff}, {"\xe4", 0xe4}, {"\xe4", 0xc3}, {"\xe4\xb8", 0xe4}, {"\xe4\xb8", 0xc3}, {"\xe4\xb8", 0xff}, {"\xef\xbf", 0xef}, {"\xef\xbf", 0xc0},
	}
	for _, c := range cases {
		wantByte(t, plainVp(c.part), c.b, impl.Vp{}, runeAct(bad))
	}
	wantParsed(t, "\xc3\xc3\xa9", runeAct(bad), runeAct(bad))
	wantParsed(t, "\xe4\xb8\xe4\xb8\xad", runeAct(bad), runeAct(bad), runeAct(bad))
	wantParsed(t, "\xed\xa0\x80", runeAct(bad), runeAct(bad))
	wantParsed(t, "\xf0\x9f\x98\x80", runeAct(bad), runeAct(bad), runeAct(bad), runeAct(bad))
	wantParsed(t, "\xc2\x9b1m", runeAct(bad), runeAct('1'), runeAct('m'))
	wantBytes(t, impl.Vp{}, "\xff\xe4", plainVp("\xe4"), runeAct(bad))
	// The rune itself is an ordinary one.
	wantParsed(t, "\xef\xbf\xbd", runeAct(bad))
	wantBytes(t, plainVp("\xef\xbf"), "\xbd", impl.Vp{}, runeAct(bad))
	wantBytes(t, plainVp("\xef"), "\xbf", plainVp("\xef\xbf"))
}

func TestIncompleteRunesAreDiscarded(t *testing.T) {
	for _, part := range []string{"\xc3", "\xe4", "\xe4\xb8", "\xef\xbf"} {
		wantBytes(t, plainVp(part), "a\xa9", impl.Vp{}, runeAct('a'), runeAct(65533))
		wantBytes(t, plainVp(part), " ", impl.Vp{}, runeAct(' '))
		wantBytes(t, plainVp(part), "\n\xad", impl.Vp{}, ctlAct(10), runeAct(65533))
		wantBytes(t, plainVp(part), "\x00", impl.Vp{}, ctlAct(0))
		wantBytes(t, plainVp(part), "\x7f", impl.Vp{}, ctlAct(127))
		wantBytes(t, plainVp(part), "\x18\xad", impl.Vp{}, runeAct(65533))
		wantBytes(t, plainVp(part), "\x1a", impl.Vp{})
		wantBytes(t, plainVp(part), "\x1b", impl.Vp{State: impl.VpEsc})
		wantBytes(t, plainVp(part), "\x1bM\xad", impl.Vp{}, escAct('M'), runeAct(65533))
	}
}

func TestEveryByteAfterEsc(t *testing.T) {
	p := impl.Vp{State: impl.VpEsc}
	for b := range 256 {
		switch {
		case b == 27:
			wantByte(t, p, b, p, impl.Act{})
		case b == '[':
			wantByte(t, p, b, csiVp(false), impl.Act{})
		case b >= 48 && b <= 126:
			wantByte(t, p, b, impl.Vp{}, escAct(b))
		default:
			wantByte(t, p, b, impl.Vp{}, impl.Act{})
		}
	}
	for _, b := range []int{0, 10, 31, 32, 35, 40, 47, 127, 128, 176, 195, 255} {
		wantByte(t, p, b, impl.Vp{}, impl.Act{})
	}
	for _, b := range []int{48, 55, 63, 64, 77, 90, 92, 93, 126} {
		wantByte(t, p, b, impl.Vp{}, escAct(b))
	}
	// What is behind a sequence that is none is plain again.
	wantParsed(t, "\x1b#8", runeAct('8'))
	wantParsed(t, "\x1b\xc3\xa9", runeAct(65533))
	wantParsed(t, "\x1b\x1b\x1bc", escAct('c'))
	wantParsed(t, "\x1b\x18c\x1b\x1ac\x1b\nc", runeActs("ccc")...)
}

func TestQuestionMarks(t *testing.T) {
	wantByte(t, csiVp(false), '?', csiVp(true), impl.Act{})
	wantByte(t, csiVp(true), '?', skipVp(true), impl.Act{})
	wantByte(t, csiVp(false, 0), '?', skipVp(false, 0), impl.Act{})
	wantByte(t, csiVp(false, 25), '?', skipVp(false, 25), impl.Act{})
	wantByte(t, csiVp(true, 25), '?', skipVp(true, 25), impl.Act{})
	wantByte(t, csiVp(false, 1, 2, 3, 4, 5, 6, 7, 8), '?', skipVp(false, 1, 2, 3, 4, 5, 6, 7, 8), impl.Act{})
	wantParsed(t, csi+"?h", csiAct(true, 'h'))
	wantParsed(t, csi+"?25h", csiAct(true, 'h', 25))
	wantParsed(t, csi+"?;l", csiAct(true, 'l', 0, 0))
	wantParsed(t, csi+"??25hx", runeAct('x'))
	wantParsed(t, csi+"25?hx", runeAct('x'))
	wantParsed(t, csi+";?hx", runeAct('x'))
	// A mark does not outlive its sequence.
	wantParsed(t, csi+"?1h"+csi+"1h", csiAct(true, 'h', 1), csiAct(false, 'h', 1))
	wantParsed(t, csi+"?"+csi+"1h", csiAct(false, 'h', 1))
}

func TestDigits(t *testing.T) {
	for d := range 10 {
		wantByte(t, csiVp(false), '0'+d, csiVp(false, d), impl.Act{})
		wantByte(t, csiVp(true), '0'+d, csiVp(true, d), impl.Act{})
		wantByte(t, csiVp(false, 0), '0'+d, csiVp(false, d), impl.Act{})
		wantByte(t, csiVp(true, 4, 12), '0'+d, csiVp(true, 4, 120+d), impl.Act{})
		wantByte(t, csiVp(false, 999), '0'+d, csiVp(false, 9990+d), impl.Act{})
		wantByte(t, csiVp(false, 1000), '0'+d, csiVp(false, 9999), impl.Act{})
		wantByte(t, csiVp(false, 5, 9999), '0'+d, csiVp(false, 5, 9999), impl.Act{})
		wantByte(t, csiVp(true, 1, 2, 3, 4, 5, 6, 7, 80), '0'+d, csiVp(true, 1, 2, 3, 4, 5, 6, 7, 800+d), impl.Act{})
	}
	for _, c := range []struct {
		text string
		n    int
	}{
		{"0", 0}, {"000", 0}, {"007", 7}, {"9998", 9998}, {"9999", 9999}, {"10000", 9999}, {"00009999", 9999}, {"000010000", 9999}, {"12345", 9999}, {"99990", 9999},
		{"4294967297", 9999}, {"18446744073709551617", 9999}, {strings.Repeat("9", 5000), 9999}, {strings.Repeat("0", 5000) + "12", 12}, {"1" + strings.Repeat("0", 5000), 9999},
	} {
		wantParsed(t, csi+c.text+"C", csiAct(false, 'C', c.n))
		wantParsed(t, csi+"?3;"+c.text+";4h", csiAct(true, 'h', 3, c.n, 4))
	}
}

func TestSemicolons(t *testing.T) {
	wantByte(t, csiVp(false), ';', csiVp(false, 0, 0), impl.Act{})
	wantByte(t, csiVp(true), ';', csiVp(true, 0, 0), impl.Act{})
	wantByte(t, csiVp(false, 0), ';', csiVp(false, 0, 0), impl.Act{})
	wantByte(t, csiVp(true, 12), ';', csiVp(true, 12, 0), impl.Act{})
	wantByte(t, csiVp(false, 1, 2, 3, 4, 5, 6, 7), ';', csiVp(false, 1, 2, 3, 4, 5, 6, 7, 0), impl.Act{})
	wantByte(t, csiVp(false, 1, 2, 3, 4, 5, 6, 7, 8), ';', skipVp(false, 1, 2, 3, 4, 5, 6, 7, 8), impl.Act{})
	wantByte(t, csiVp(true, 1, 2, 3, 4, 5, 6, 7, 8), ';', skipVp(true, 1, 2, 3, 4, 5, 6, 7, 8), impl.Act{})
	wantParsed(t, csi+"m", csiAct(false, 'm'))
	wantParsed(t, csi+"0m", csiAct(false, 'm', 0))
	wantParsed(t, csi+";H", csiAct(false, 'H', 0, 0))
	wantParsed(t, csi+"5;H", csiAct(false, 'H', 5, 0))
	wantParsed(t, csi+";5H", csiAct(false, 'H', 0, 5))
	wantParsed(t, csi+";;5;;H", csiAct(false, 'H', 0, 0, 5, 0, 0))
	wantParsed(t, csi+"1;2;3;4;5;6;7;8m", csiAct(false, 'm', 1, 2, 3, 4, 5, 6, 7, 8))
	wantParsed(t, csi+";;;;;;;m", csiAct(false, 'm', 0, 0, 0, 0, 0, 0, 0, 0))
	wantBytes(t, impl.Vp{}, csi+"1;2;3;4;5;6;7;8;", skipVp(false, 1, 2, 3, 4, 5, 6, 7, 8))
	wantBytes(t, impl.Vp{}, csi+"?1;2;3;4;5;6;7;8;9", skipVp(true, 1, 2, 3, 4, 5, 6, 7, 8))
	wantBytes(t, impl.Vp{}, csi+";;;;;;;;", skipVp(false, 0, 0, 0, 0, 0, 0, 0, 0))
	wantParsed(t, csi+"1;2;3;4;5;6;7;8;9mx", runeAct('x'))
	wantParsed(t, csi+strings.Repeat(";", 5000)+"mx", runeAct('x'))
}

func TestFinalBytes(t *testing.T) {
	for _, args := range someArgs() {
		for b := 64; b <= 126; b++ {
			wantByte(t, csiVp(false, args...), b, impl.Vp{}, csiAct(false, b, args...))
			wantByte(t, csiVp(true, args...), b, impl.Vp{}, csiAct(true, b, args...))
		}
	}
	wantParsed(t, csi+"[", csiAct(false, '['))
	wantParsed(t, csi+"@"+csi+"~", csiAct(false, 64), csiAct(false, 126))
}

func TestOtherBytesInASequence(t *testing.T) {
	for _, args := range someArgs() {
		for _, mark := range []bool{false, true} {
			p := csiVp(mark, args...)
			for b := range 128 {
				switch {
				case isCommon(b):
				case b < 32 || b == 127:
					wantByte(t, p, b, p, ctlAct(b))
				case b < 48 || b == 58 || b > 59 && b < 63:
					wantByte(t, p, b, skipVp(mark, args...), impl.Act{})
				}
			}
			for b := 128; b < 256; b++ {
				wantByte(t, p, b, skipVp(mark, args...), impl.Act{})
			}
		}
	}
	wantParsed(t, csi+"3\n1C", ctlAct(10), csiAct(false, 'C', 31))
	wantParsed(t, csi+"\x7f?\x002\x085\x1f;\rl", ctlAct(127), ctlAct(0), ctlAct(8), ctlAct(31), ctlAct(13), csiAct(true, 'l', 25, 0))
	wantParsed(t, csi+"1!px", runeAct('x'))
	wantParsed(t, csi+"1\xc3\xa9;2mx", runeAct('x'))
	wantParsed(t, csi+"1 qx", runeAct('x'))
	wantParsed(t, csi+">cx", runeAct('x'))
	wantParsed(t, csi+"3\x18x"+csi+"3\x1ay", runeActs("xy")...)
	wantParsed(t, csi+"1"+csi+"2K", csiAct(false, 'K', 2))
	wantParsed(t, csi+"1"+esc+"M", escAct('M'))
}

func TestSkippedSequences(t *testing.T) {
	for _, args := range someArgs() {
		for _, mark := range []bool{false, true} {
			p := skipVp(mark, args...)
			for b := range 256 {
				switch {
				case isCommon(b):
				case b >= 64 && b <= 126:
					wantByte(t, p, b, impl.Vp{}, impl.Act{})
				default:
					wantByte(t, p, b, p, impl.Act{})
				}
			}
		}
	}
	wantParsed(t, csi+"!\n\x7f12;?\xff\xc3m\n", ctlAct(10))
	wantParsed(t, csi+"!1"+csi+"2K", csiAct(false, 'K', 2))
	wantParsed(t, csi+"!\x18x", runeAct('x'))
}

func TestNotBytes(t *testing.T) {
	for _, p := range slices.Concat(validVps(), invalidVps()) {
		for _, b := range notBytes() {
			wantByte(t, p, b, impl.Vp{}, impl.Act{})
		}
	}
	for _, p := range []impl.Vp{{}, {State: impl.VpEsc}, csiVp(true, 1), skipVp(true, 1), plainVp("\xc3")} {
		for _, b := range []int{-1, 256, math.MinInt, math.MaxInt} {
			wantByte(t, p, b, impl.Vp{}, impl.Act{})
		}
	}
	wantByte(t, impl.Vp{}, 0, impl.Vp{}, ctlAct(0))
	wantByte(t, impl.Vp{}, 255, impl.Vp{}, runeAct(65533))
	wantByte(t, csiVp(true, 1), 0, csiVp(true, 1), ctlAct(0))
	wantByte(t, csiVp(true, 1), 255, skipVp(true, 1), impl.Act{})
}

func TestInvalidParserStates(t *testing.T) {
	for _, p := range invalidVps() {
		for b := range 256 {
			wantByte(t, p, b, impl.Vp{}, impl.Act{})
		}
		for _, text := range []string{"", "a", "m", "\x1b", "\x18a", csi + "1;2m", "\xa9", "\xc3\xa9"} {
			wantBytes(t, p, text, impl.Vp{})
		}
	}
}

// byteClasses name what each state does with each byte, where later lines replace earlier ones.
func byteClasses() [4][256]string {
	var c [4][256]string
	set := func(state, from, to int, class string) {
		for b := from; b <= to; b++ {
			c[state][b] = class
		}
	}
	set(0, 0, 127, "control")
	set(0, 32, 126, "rune")
	set(0, 128, 255, "part")
	set(1, 0, 255, "nothing")
	set(1, 48, 126, "escape")
	set(1, '[', '[', "open")
	set(2, 0, 255, "skip")
	set(2, 0, 31, "control")
	set(2, 127, 127, "control")
	set(2, '0', '9', "digit")
	set(2, ';', ';', "next")
	set(2, '?', '?', "mark")
	set(2, 64, 126, "complete")
	set(3, 0, 255, "stay")
	set(3, 64, 126, "nothing")
	for state := range 4 {
		set(state, 24, 26, "nothing")
		set(state, 27, 27, "begin")
		c[state][25] = []string{"control", "nothing", "control", "stay"}[state]
	}
	return c
}

// modelByte looks up what to do and does it. The parser state and the byte must be valid.
func modelByte(classes *[4][256]string, p impl.Vp, b int) (impl.Vp, impl.Act) {
	same, q := deepVp(p), impl.Vp{}
	switch classes[p.State][b] {
	case "control":
		if p.State == 2 {
			return same, ctlAct(b)
		}
		return q, ctlAct(b)
	case "rune":
		return q, runeAct(b)
	case "part":
		return modelPart(string(p.Part) + string([]byte{byte(b)}))
	case "escape":
		return q, escAct(b)
	case "open":
		q.State = 2
	case "begin":
		q.State = 1
	case "complete":
		return q, csiAct(p.Mark, b, same.Args...)
	case "digit":
		q = modelDigit(same, b-48)
	case "next":
		q = modelNext(same)
	case "mark":
		q = same
		if p.Mark || len(p.Args) > 0 {
			q.State = 3
		}
		q.Mark = p.Mark || len(p.Args) == 0
	case "skip":
		q = same
		q.State = 3
	case "stay":
		q = same
	}
	return q, impl.Act{}
}

func modelPart(part string) (impl.Vp, impl.Act) {
	if r, ok := allCodes().runes[part]; ok {
		return impl.Vp{}, runeAct(r)
	}
	if allCodes().begins[part] {
		return plainVp(part), impl.Act{}
	}
	return impl.Vp{}, runeAct(65533)
}

func modelDigit(p impl.Vp, d int) impl.Vp {
	if len(p.Args) == 0 {
		p.Args = []int{0}
	}
	last := len(p.Args) - 1
	n := 10*p.Args[last] + d
	if n > 9999 {
		n = 9999
	}
	p.Args[last] = n
	return p
}

func modelNext(p impl.Vp) impl.Vp {
	switch len(p.Args) {
	case 0:
		p.Args = []int{0, 0}
	case 8:
		p.State = 3
	default:
		p.Args = append(p.Args, 0)
	}
	return p
}

func TestEveryByteInEveryState(t *testing.T) {
	classes := byteClasses()
	for _, p := range validVps() {
		for b := range 256 {
			want, act := modelByte(&classes, p, b)
			wantByte(t, p, b, want, act)
			if got, _ := impl.VpByte(p, b); !impl.VpOk(got) {
				t.Errorf("VpByte(%+v, %d) is not valid: %+v", p, b, got)
			}
		}
	}
}

func TestAllBytesAfterAllBeginningsOfRunes(t *testing.T) {
	for part := range allCodes().begins {
		for b := 128; b < 256; b++ {
			want, act := modelPart(part + string([]byte{byte(b)}))
			wantByte(t, plainVp(part), b, want, act)
		}
	}
}

// modelActs finds the acts of a whole text by looking for what belongs together in it, not by a state for each byte.
func modelActs(s string) []impl.Act {
	var acts []impl.Act
	for s != "" {
		var found []impl.Act
		switch {
		case strings.HasPrefix(s, csi):
			found, s = modelSequence(s[len(csi):])
		case s[0] == 27:
			found, s = modelEscape(s[1:])
		case s[0] >= 128:
			found, s = modelHigh(s)
		default:
			if s[0] < 32 || s[0] == 127 {
				found = append(found, ctlAct(int(s[0])))
			} else {
				found = append(found, runeAct(int(s[0])))
			}
			if isCommon(int(s[0])) {
				found = nil
			}
			s = s[1:]
		}
		acts = append(acts, found...)
	}
	return acts
}

func modelEscape(s string) ([]impl.Act, string) {
	switch {
	case s == "" || s[0] == 27:
		return nil, s
	case s[0] < 48 || s[0] > 126:
		return nil, s[1:]
	}
	return []impl.Act{escAct(int(s[0]))}, s[1:]
}

func modelHigh(s string) ([]impl.Act, string) {
	for end := 1; end <= len(s); end++ {
		if r, ok := allCodes().runes[s[:end]]; ok {
			return []impl.Act{runeAct(r)}, s[end:]
		}
		if allCodes().begins[s[:end]] {
			continue
		}
		if s[end-1] < 128 {
			return nil, s[end-1:]
		}
		return []impl.Act{runeAct(65533)}, s[end:]
	}
	return nil, ""
}

var (
	sequenceEnd    = regexp.MustCompile(`[@-~\x18\x1a\x1b]`)
	sequenceBegin  = regexp.MustCompile(`^\??[0-9]*(?:;[0-9]*){0,7}`)
	withoutNumbers = regexp.MustCompile(`^0*([0-9]+)$`)
)

// modelSequence takes the bytes up to the end of a sequence, and tells the control bytes among them from the parameters.
func modelSequence(s string) ([]impl.Act, string) {
	body, rest, end := s, "", byte(24)
	if at := sequenceEnd.FindIndex(lowBytes(s)); at != nil {
		body, end, rest = s[:at[0]], s[at[0]], s[at[1]:]
	}
	if end == 27 {
		rest = esc + rest
	}
	var params []byte
	var acts []impl.Act
	whole := true
	for _, c := range lowBytes(body) {
		if c < 32 || c == 127 {
			if whole {
				acts = append(acts, ctlAct(int(c)))
			}
			continue
		}
		params = append(params, c)
		whole = len(sequenceBegin.Find(params)) == len(params)
	}
	if whole && end >= 64 {
		acts = append(acts, modelComplete(string(params), int(end)))
	}
	return acts, rest
}

// lowBytes writes a `!`, which means as much in a sequence, for bytes that would be parts of runes for the expressions.
func lowBytes(s string) []byte {
	b := []byte(s)
	for i, c := range b {
		if c >= 128 {
			b[i] = '!'
		}
	}
	return b
}

func modelComplete(params string, b int) impl.Act {
	params, mark := strings.CutPrefix(params, "?")
	a := impl.Act{Kind: impl.ActCsi, R: b, Mark: mark}
	if params == "" {
		return a
	}
	for field := range strings.SplitSeq(params, ";") {
		field = withoutNumbers.ReplaceAllString(field, "$1")
		n, _ := strconv.Atoi("0" + field)
		if len(field) > 4 {
			n = 9999
		}
		a.Args = append(a.Args, n)
	}
	return a
}

// randomText is made of pieces of sequences, runes and controls, often broken.
func randomText(r *rand.Rand) string {
	pieces := []string{
		esc, csi, csi, csi, "[", "?", ";", ";", "0", "1", "25", "9999", "12345", "m", "H", "h", "@", "~", "M", "7", "\n", "\r", "\x08", "\x00", "\x7f", "\x18", "\x1a", "\x19", " ", "!", ":", "<", "/",
		"a", "text", "\xc3\xa9", "\xe4\xb8\xad", "\xef\xbf\xbd", "\xc3", "\xe4", "\xe4\xb8", "\x80", "\xa9", "\xff", "\xc2\x9b", csi + "1;2;3;4;5;6;7", ";8", csi + "?1049h", csi + "0;1;4m",
	}
	var s strings.Builder
	for range 1 + r.Intn(14) {
		if r.Intn(12) == 0 {
			s.WriteByte(byte(r.Intn(256)))
			continue
		}
		s.WriteString(pieces[r.Intn(len(pieces))])
	}
	return s.String()
}

func TestRandomTextsAreLikeTheModels(t *testing.T) {
	r := rand.New(rand.NewSource(8))
	classes := byteClasses()
	for range 30000 {
		text := randomText(r)
		var acts []impl.Act
		want := impl.Vp{}
		for _, b := range []byte(text) {
			next, act := modelByte(&classes, want, int(b))
			wantByte(t, want, int(b), next, act)
			if act.Kind != impl.ActNone {
				acts = append(acts, act)
			}
			want = next
		}
		wantBytes(t, impl.Vp{}, text, want, acts...)
		wantBytes(t, impl.Vp{}, text, want, modelActs(text)...)
		if t.Failed() {
			t.FailNow()
		}
	}
}

func TestRandomTextsInOtherStates(t *testing.T) {
	r := rand.New(rand.NewSource(80))
	classes := byteClasses()
	for _, from := range validVps() {
		for range 40 {
			text := randomText(r)
			var acts []impl.Act
			want := from
			for _, b := range []byte(text) {
				next, act := modelByte(&classes, want, int(b))
				if act.Kind != impl.ActNone {
					acts = append(acts, act)
				}
				want = next
			}
			wantBytes(t, from, text, want, acts...)
		}
	}
}

func TestVpBytesOfNoBytes(t *testing.T) {
	for _, p := range validVps() {
		got, acts := impl.VpBytes(p, nil)
		wantVp(t, "nil", got, p)
		wantActs(t, "nil", acts, nil)
		wantBytes(t, p, "", p)
	}
}

// sampleTexts have something that can be cut in two at nearly every offset.
func sampleTexts() []string {
	return []string{
		"plain text\r\n", "a\n\xc3\xa9\x7f\xe4\xb8\xad\xef\xbf\xbd\xffz", csi + "1;23m" + csi + "?25h" + csi + ";H" + esc + "M" + esc + "7", csi + "1;2;3;4;5;6;7;8m" + csi + "1;2;3;4;5;6;7;8;9mx",
		csi + "3\n1C" + csi + "3\x18x" + esc + "#x" + esc + esc + "[[", csi + "99999;0012?;4mx" + csi + "??1hy" + csi + "1!\n;2pz", "\xe4\xb8a\xe4\n\xc3\xc3\xa9\xe4\x1b[A\xe4\xb8\x18\xad", csi + "!\n\xff" + csi + "2;\x7f5",
	}
}

// TestTheSameBytesInAnyPieces is the part of P7 about the parser.
func TestTheSameBytesInAnyPieces(t *testing.T) {
	for _, text := range sampleTexts() {
		whole, acts := impl.VpBytes(impl.Vp{}, []byte(text))
		wantActs(t, fmt.Sprintf("%q", text), acts, modelActs(text))
		for i := range len(text) + 1 {
			for j := i; j <= len(text); j++ {
				checkPieces(t, text, whole, acts, text[:i], text[i:j], text[j:])
			}
		}
		checkPieces(t, text, whole, acts, strings.Split(text, "")...)
		single := make([]string, len(text))
		for i := range len(text) {
			single[i] = text[i : i+1]
		}
		checkPieces(t, text, whole, acts, single...)
	}
}

func checkPieces(t *testing.T, text string, whole impl.Vp, acts []impl.Act, pieces ...string) {
	t.Helper()
	p := impl.Vp{}
	var got []impl.Act
	for _, piece := range pieces {
		var more []impl.Act
		p, more = impl.VpBytes(p, []byte(piece))
		got = append(got, more...)
		if !impl.VpOk(p) {
			t.Errorf("%q in the pieces %q: %+v is not valid", text, pieces, p)
		}
	}
	what := fmt.Sprintf("%q in the pieces %q", text, pieces)
	wantVp(t, what, p, whole)
	wantActs(t, what, got, acts)
}

func TestRandomTextsInRandomPieces(t *testing.T) {
	r := rand.New(rand.NewSource(88))
	for range 3000 {
		text := randomText(r) + randomText(r)
		whole, acts := impl.VpBytes(impl.Vp{}, []byte(text))
		var pieces []string
		for rest := text; rest != ""; {
			n := r.Intn(len(rest) + 1)
			pieces = append(pieces, rest[:n])
			rest = rest[n:]
		}
		checkPieces(t, text, whole, acts, pieces...)
	}
}

// modelActText is the text of an act that has one.
func modelActText(a impl.Act) (string, bool) {
	switch {
	case a.Kind != 4 && (a.Mark || len(a.Args) > 0):
		return "", false
	case a.Kind == 1:
		return modelRune(a.R), modelShows(a.R)
	case a.Kind == 2 && (a.R >= 0 && a.R < 32 && !isCommon(a.R) || a.R == 127):
		return string([]byte{byte(a.R)}), true
	case a.Kind == 3 && a.R >= 48 && a.R <= 126 && a.R != '[':
		return fmt.Sprintf("\x1b%c", a.R), true
	case a.Kind == 4 && a.R >= 64 && a.R <= 126 && modelVpOk(csiVp(a.Mark, a.Args...)):
		mark := map[bool]string{true: "?"}[a.Mark]
		return fmt.Sprintf("\x1b[%s%s%c", mark, strings.ReplaceAll(strings.Trim(fmt.Sprint(a.Args), "[]"), " ", ";"), a.R), true
	}
	return "", false
}

// checkActText expects the text of the model, and that it leads to the act and to nothing else.
func checkActText(t *testing.T, a impl.Act) {
	t.Helper()
	want, ok := modelActText(a)
	got := impl.ActText(a)
	if got != want || (got != "") != ok {
		t.Errorf("ActText(%+v) = %q; want %q", a, got, want)
		return
	}
	if ok {
		wantParsed(t, got, a)
		wantParsed(t, got+got, a, a)
	}
}

func TestActTextKnown(t *testing.T) {
	known := []struct {
		a    impl.Act
		text string
	}{
		{runeAct('a'), "a"}, {runeAct(' '), " "}, {runeAct('~'), "~"}, {runeAct(233), "\xc3\xa9"}, {runeAct(20013), "\xe4\xb8\xad"}, {runeAct(65533), "\xef\xbf\xbd"}, {runeAct(65535), "\xef\xbf\xbf"},
		{ctlAct(0), "\x00"}, {ctlAct(10), "\n"}, {ctlAct(23), "\x17"}, {ctlAct(25), "\x19"}, {ctlAct(28), "\x1c"}, {ctlAct(31), "\x1f"}, {ctlAct(127), "\x7f"},
		{escAct('0'), "\x1b0"}, {escAct('M'), "\x1bM"}, {escAct('Z'), "\x1bZ"}, {escAct('\\'), "\x1b\\"}, {escAct('~'), "\x1b~"},
		{csiAct(false, 'm'), "\x1b[m"}, {csiAct(false, 'm', 0), "\x1b[0m"}, {csiAct(false, 'm', 0, 7), "\x1b[0;7m"}, {csiAct(true, 'h', 25), "\x1b[?25h"}, {csiAct(true, 'l'), "\x1b[?l"},
		{csiAct(false, '@', 9999), "\x1b[9999@"}, {csiAct(false, '~', 0, 0), "\x1b[0;0~"}, {csiAct(false, '[', 5), "\x1b[5["}, {csiAct(true, 'h', 1, 2, 3, 4, 5, 6, 7, 8), "\x1b[?1;2;3;4;5;6;7;8h"},
		// There is no text for these.
		{impl.Act{}, ""}, {impl.Act{R: 'a'}, ""}, {impl.Act{Kind: 5, R: 'a'}, ""}, {impl.Act{Kind: -1, R: 'a'}, ""},
		{runeAct(0), ""}, {runeAct(10), ""}, {runeAct(127), ""}, {runeAct(155), ""}, {runeAct(55296), ""}, {runeAct(65536), ""}, {runeAct(-1), ""},
		{ctlAct(24), ""}, {ctlAct(26), ""}, {ctlAct(27), ""}, {ctlAct(32), ""}, {ctlAct('a'), ""}, {ctlAct(128), ""}, {ctlAct(255), ""}, {ctlAct(256), ""}, {ctlAct(256 + 10), ""}, {ctlAct(-246), ""}, {ctlAct(-1), ""},
		{escAct('['), ""}, {escAct('/'), ""}, {escAct('#'), ""}, {escAct(127), ""}, {escAct(10), ""}, {escAct(27), ""}, {escAct(24), ""}, {escAct(0), ""}, {escAct(256 + 'M'), ""}, {escAct('M' - 256), ""},
		{csiAct(false, '?'), ""}, {csiAct(false, '0'), ""}, {csiAct(false, ';'), ""}, {csiAct(false, 127), ""}, {csiAct(false, 10), ""}, {csiAct(false, 27), ""}, {csiAct(false, 256+'m'), ""}, {csiAct(false, -1), ""},
		{csiAct(false, 'm', -1), ""}, {csiAct(false, 'm', 10000), ""}, {csiAct(false, 'm', 1, -1), ""}, {csiAct(false, 'm', -1, 1), ""}, {csiAct(true, 'm', 1<<32), ""}, {csiAct(false, 'm', math.MinInt), ""},
		{csiAct(false, 'm', 1, 2, 3, 4, 5, 6, 7, 8, 9), ""}, {csiAct(false, 'm', make([]int, 9)...), ""}, {csiAct(false, 'm', make([]int, 5000)...), ""},
	}
	for _, k := range known {
		if got := impl.ActText(k.a); got != k.text {
			t.Errorf("ActText(%+v) = %q; want %q", k.a, got, k.text)
		}
	}
}

func TestActTextOfEveryKind(t *testing.T) {
	values := slices.Concat(allBytes(), notBytes(), notRunes(), []int{160, 233, 20013, 65533})
	for _, kind := range append(extremeInts(), -2, -1, 0, 1, 2, 3, 4, 5, 6, 256+1, 256+4, 1<<32+2) {
		for _, r := range values {
			for _, mark := range []bool{false, true} {
				checkActText(t, impl.Act{Kind: kind, R: r, Mark: mark})
				checkActText(t, impl.Act{Kind: kind, R: r, Mark: mark, Args: []int{}})
				checkActText(t, impl.Act{Kind: kind, R: r, Mark: mark, Args: []int{0}})
				checkActText(t, impl.Act{Kind: kind, R: r, Mark: mark, Args: []int{1, 23}})
			}
		}
	}
}

func TestActTextOfManyRunes(t *testing.T) {
	for r := -300; r < 70000; r++ {
		a := runeAct(r)
		if want, _ := modelActText(a); impl.ActText(a) != want {
			t.Fatalf("ActText of the rune %d is %q; want %q", r, impl.ActText(a), want)
		}
	}
	for _, r := range notRunes() {
		checkActText(t, runeAct(r))
	}
}

func TestActTextOfArguments(t *testing.T) {
	for _, args := range slices.Concat(someArgs(), badArgs()) {
		for _, b := range []int{63, 64, 'A', '[', 'm', 126, 127} {
			checkActText(t, csiAct(false, b, args...))
			checkActText(t, csiAct(true, b, args...))
		}
	}
	for n := -10; n <= 10100; n++ {
		checkActText(t, csiAct(n%2 == 0, 'm', n))
		checkActText(t, csiAct(false, 'H', 3, n, 0))
	}
}

// TestActsOfTextsHaveATextThatLeadsToThem: whatever the parser completes, it completes again from the text.
func TestActsOfTextsHaveATextThatLeadsToThem(t *testing.T) {
	r := rand.New(rand.NewSource(888))
	for range 3000 {
		_, acts := impl.VpBytes(impl.Vp{}, []byte(randomText(r)))
		var text strings.Builder
		for _, a := range acts {
			checkActText(t, a)
			text.WriteString(impl.ActText(a))
		}
		wantParsed(t, text.String(), acts...)
	}
}

// spareVp returns the parser state with spare capacity behind its slices, and the whole memory of these.
func spareVp(p impl.Vp) (impl.Vp, []int, []byte) {
	args := append(slices.Clone(p.Args), slices.Repeat([]int{77}, 20)...)
	parts := append(slices.Clone(p.Part), slices.Repeat([]byte{177}, 20)...)
	p.Args, p.Part = args[:len(p.Args)], parts[:len(p.Part)]
	return p, args, parts
}

func overwriteInts(l []int) {
	l = l[:cap(l)]
	for i := range l {
		l[i] = -99
	}
}

func overwriteVp(p impl.Vp) {
	overwriteInts(p.Args)
	overwrite(p.Part)
}

func overwriteActs(l []impl.Act) {
	l = l[:cap(l)]
	for i := range l {
		overwriteInts(l[i].Args)
		l[i] = impl.Act{Kind: -99}
	}
}

type parseResult struct {
	p    impl.Vp
	acts []impl.Act
}

// parseResults calls the functions that are given a parser state, with every byte and with the text.
func parseResults(p impl.Vp, text []byte) []parseResult {
	var l []parseResult
	for b := -1; b <= 256; b++ {
		q, a := impl.VpByte(p, b)
		l = append(l, parseResult{q, []impl.Act{a}})
	}
	impl.VpOk(p)
	q, acts := impl.VpBytes(p, text)
	same, none := impl.VpBytes(p, text[:0])
	return append(l, parseResult{q, acts}, parseResult{same, none})
}

func TestParserFunctionsLeaveTheirArgumentsAlone(t *testing.T) {
	for _, from := range slices.Concat(validVps(), invalidVps()) {
		for _, s := range []string{"", "1;2", "5;6H" + csi + "7;8m" + csi + "?9", "\xa9\xe4\xb8", ";;\n9!1"} {
			p, args, parts := spareVp(from)
			text, all := withSpare(s)
			beforeArgs, beforeParts, beforeAll := slices.Clone(args), slices.Clone(parts), slices.Clone(all)
			unchanged := func(when string) {
				t.Helper()
				if !slices.Equal(args, beforeArgs) || !slices.Equal(parts, beforeParts) || !slices.Equal(all, beforeAll) {
					t.Errorf("%s: an argument of %+v and %q, or the spare capacity behind it, is changed", when, from, s)
				}
			}
			results := parseResults(p, text)
			unchanged("after the calls")
			again := parseResults(p, text)
			for _, r := range results {
				overwriteVp(r.p)
				overwriteActs(r.acts)
			}
			unchanged("after the results were overwritten")
			third := parseResults(p, text)
			overwriteVp(p)
			overwrite(text)
			for i := range third {
				wantVp(t, "after others were overwritten", third[i].p, again[i].p)
				wantActs(t, "after others were overwritten", third[i].acts, again[i].acts)
			}
		}
	}
}

// TestSlicesOfOneParseShareNothing overwrites each slice of a result, with its spare capacity, and looks at all the others.
func TestSlicesOfOneParseShareNothing(t *testing.T) {
	texts := []string{csi + "1;2m" + csi + "3;4;5H" + csi + "?6;7", csi + "1;2;3;4;5;6;7;8m" + csi + "1;2;3;4;5;6;7;8;", csi + "1m\n" + csi + "2m\xe4\xb8", csi + "m" + csi + "0m" + csi + "\n5\n;"}
	for _, text := range texts {
		want, wantList := impl.VpBytes(impl.Vp{}, []byte(text))
		want, wantList = deepVp(want), deepActs(wantList)
		for i := range len(wantList) + 1 {
			p, acts := impl.VpBytes(impl.Vp{}, []byte(text))
			others := deepActs(wantList)
			if i == len(wantList) {
				overwriteVp(p)
			} else {
				overwriteInts(acts[i].Args)
				wantVp(t, fmt.Sprintf("%q with the act %d overwritten", text, i), p, want)
				acts, others = slices.Delete(acts, i, i+1), slices.Delete(others, i, i+1)
			}
			wantActs(t, fmt.Sprintf("%q with the slice %d overwritten", text, i), acts, others)
		}
	}
}

func TestActTextLeavesItsArgumentAlone(t *testing.T) {
	all := []int{1, 22, 333, 77, 77, 77, 77, 77, 77, 77}
	before := slices.Clone(all)
	for _, kind := range []int{0, 1, 2, 3, 4, 5} {
		for n := range len(all) + 1 {
			impl.ActText(impl.Act{Kind: kind, R: 'm', Mark: true, Args: all[:n]})
		}
	}
	if !slices.Equal(all, before) {
		t.Errorf("the arguments or the spare capacity behind them are changed: %d", all)
	}
}
