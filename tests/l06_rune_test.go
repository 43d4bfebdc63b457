package tests

import (
	"bytes"
	"fmt"
	"math"
	"math/rand"
	"slices"
	"strings"
	"testing"
	"unicode/utf8"

	"loop.example/g00661/impl"
)

// modelShows is written with the limits of the document, and modelRune with its divisions.
func modelShows(r int) bool {
	return r >= 32 && r <= 126 || r >= 160 && r <= 55295 || r >= 57344 && r <= 65535
}

func modelRune(r int) string {
	switch {
	case !modelShows(r):
		return ""
	case r < 128:
		return string([]byte{byte(r)})
	case r < 2048:
		return string([]byte{byte(192 + r/64), byte(128 + r%64)})
	}
	return string([]byte{byte(224 + r/4096), byte(128 + r/64%64), byte(128 + r%64)})
}

func printableRunes() []int {
	var l []int
	for r := range 65536 {
		if modelShows(r) {
			l = append(l, r)
		}
	}
	return l
}

// notRunes are ints that are not printable, among them some that are if only their lower bits count.
func notRunes() []int {
	return []int{
		-1, -2, -31, -32, -65, -128, -160, -65535, -65536, math.MinInt, math.MinInt + 65, math.MinInt32, math.MinInt32 + 65,
		0, 1, 9, 10, 13, 27, 31, 127, 128, 155, 159, 55296, 55297, 56319, 56320, 57342, 57343,
		65536, 65537, 65536 + 65, 128512, 1114111, 1114112, 1<<20 + 65, 1<<21 + 65, 1<<24 + 65, 1<<31 + 65, 1<<32 + 65, 1<<32 + 20013, 1<<48 + 65,
		math.MaxInt32, math.MaxInt, math.MaxInt - 1,
	}
}

func wantRune(t *testing.T, b []byte, at int, r int, size int) {
	t.Helper()
	if got, n := impl.RuneRead(b, at); got != r || n != size {
		t.Errorf("RuneRead(% x, %d) = %d, %d; want %d, %d", b, at, got, n, r, size)
	}
}

func wantNoRune(t *testing.T, b []byte, at int) {
	t.Helper()
	wantRune(t, b, at, 0, 0)
}

func wantBegin(t *testing.T, s string, want bool) {
	t.Helper()
	if impl.RuneBegin([]byte(s)) != want {
		t.Errorf("RuneBegin(% x) = %v", s, !want)
	}
}

func TestShowsAtItsLimits(t *testing.T) {
	for _, r := range []int{32, 33, 48, 65, 125, 126, 160, 161, 255, 256, 2047, 2048, 20013, 55294, 55295, 57344, 57345, 65533, 65534, 65535} {
		if !impl.Shows(r) {
			t.Errorf("Shows(%d) is false", r)
		}
	}
	for _, r := range notRunes() {
		if impl.Shows(r) {
			t.Errorf("Shows(%d) is true", r)
		}
	}
}

func TestShowsAndRuneBytesOfManyInts(t *testing.T) {
	for r := -70000; r < 1300000; r++ {
		if impl.Shows(r) != modelShows(r) {
			t.Fatalf("Shows(%d) = %v", r, !modelShows(r))
		}
		if got := impl.RuneBytes(r); string(got) != modelRune(r) {
			t.Fatalf("RuneBytes(%d) = % x; want % x", r, got, modelRune(r))
		}
	}
	for _, r := range printableRunes() {
		if got := impl.RuneBytes(r); string(got) != string(utf8.AppendRune(nil, rune(r))) {
			t.Fatalf("RuneBytes(%d) = % x is not UTF-8", r, got)
		}
	}
}

func TestRuneBytesEncodings(t *testing.T) {
	want := map[int]string{
		32: " ", 65: "A", 126: "~", 160: "\xc2\xa0", 191: "\xc2\xbf", 192: "\xc3\x80", 228: "\xc3\xa4", 2047: "\xdf\xbf",
		2048: "\xe0\xa0\x80", 4095: "\xe0\xbf\xbf", 4096: "\xe1\x80\x80", 20013: "\xe4\xb8\xad", 53248: "\xed\x80\x80",
		55295: "\xed\x9f\xbf", 57344: "\xee\x80\x80", 65533: "\xef\xbf\xbd", 65535: "\xef\xbf\xbf",
	}
	for r, s := range want {
		if got := impl.RuneBytes(r); string(got) != s {
			t.Errorf("RuneBytes(%d) = % x; want % x", r, got, s)
		}
	}
	for _, r := range notRunes() {
		if got := impl.RuneBytes(r); len(got) != 0 {
			t.Errorf("RuneBytes(%d) = % x; want nothing", r, got)
		}
	}
}

func TestEveryRuneIsRecoveredAtAnyOffset(t *testing.T) {
	befores := []string{"", "a", "\x1b[", "\xe4\xb8", "\xc3", "\x80\x80\x80"}
	behinds := []string{"", "a", "\x80", "\xbf\xbf", "\xe4\xb8\xad"}
	for _, r := range printableRunes() {
		code := impl.RuneBytes(r)
		for i, before := range befores {
			b := slices.Concat([]byte(before), code, []byte(behinds[i%len(behinds)]))
			if got, n := impl.RuneRead(b, len(before)); got != r || n != len(code) {
				t.Fatalf("RuneRead(% x, %d) = %d, %d; want %d, %d", b, len(before), got, n, r, len(code))
			}
		}
	}
}

func TestTheEncodingsOfAllRunesAreReadOneBehindTheOther(t *testing.T) {
	runes := printableRunes()
	var b []byte
	for _, r := range runes {
		b = append(b, impl.RuneBytes(r)...)
	}
	at := 0
	for _, r := range runes {
		got, n := impl.RuneRead(b, at)
		if got != r || n < 1 {
			t.Fatalf("RuneRead at %d = %d, %d; want %d", at, got, n, r)
		}
		for inside := at + 1; inside < at+n; inside++ {
			wantNoRune(t, b, inside)
		}
		at += n
	}
	if at != len(b) {
		t.Errorf("%d of %d bytes were read", at, len(b))
	}
}

// notEncodings are bytes in which no rune is found at offset 0, whatever follows them.
func notEncodings() []string {
	return []string{
		// Longer than the shortest encoding.
		"\xc0\x80", "\xc0\x8a", "\xc0\xaf", "\xc1\x81", "\xc1\xbf", "\xe0\x80\x80", "\xe0\x80\xaf", "\xe0\x81\x81", "\xe0\x82\xa0", "\xe0\x9f\xbf",
		"\xf0\x80\x80\x80", "\xf0\x80\x81\x81", "\xf0\x8f\xbf\xbf", "\xf8\x88\x80\x80\x80", "\xfc\x84\x80\x80\x80\x80",
		// Four bytes, and leads of encodings that do not exist.
		"\xf0\x90\x80\x80", "\xf0\x9f\x98\x80", "\xf3\xbf\xbf\xbf", "\xf4\x8f\xbf\xbf", "\xf4\x90\x80\x80", "\xf5\x80\x80\x80", "\xf7\xbf\xbf\xbf", "\xfe", "\xff", "\xff\xff\xff",
		// Surrogates, alone and in pairs.
		"\xed\xa0\x80", "\xed\xa0\xbf", "\xed\xaf\xbf", "\xed\xb0\x80", "\xed\xbf\xbf", "\xed\xa0\xbd\xed\xb8\x80",
		// Complete encodings of what is not printable.
		"\x00", "\x0a", "\x1b", "\x1f", "\x7f", "\xc2\x80", "\xc2\x85", "\xc2\x9b", "\xc2\x9f",
		// Continuation bytes without a lead, and leads without continuation bytes.
		"\x80", "\x9f", "\xa0", "\xbf", "\xbf\xbf", "\x80\x80\x80", "\xc2a", "\xc2\xc2", "\xc2\xff", "\xdf\x7f", "\xdf\xc0",
		"\xe4a\xad", "\xe4\xb8a", "\xe4\xb8\xe4", "\xe4\xb8\x7f", "\xe4\xb8\xc0", "\xe4\x7f\x80", "\xe4\xc0\x80", "\xed\x9f\xc0", "\xef\xbf\xff",
	}
}

func TestRuneReadRejectsWhatRuneBytesNeverReturns(t *testing.T) {
	for _, s := range notEncodings() {
		for _, before := range []string{"", "a", "\xe4\xb8\xad", "\xe4"} {
			for _, behind := range []string{"", "a", "\x00"} {
				wantNoRune(t, []byte(before+s+behind), len(before))
			}
		}
	}
}

func TestRuneReadRejectsIncompleteEncodings(t *testing.T) {
	for _, r := range printableRunes() {
		code := []byte(modelRune(r))
		for end := range code {
			// What lies in the spare capacity is not part of the slice.
			if got, n := impl.RuneRead(code[:end], 0); got != 0 || n != 0 {
				t.Fatalf("RuneRead(% x, 0) = %d, %d; want zeros", code[:end], got, n)
			}
		}
	}
	wantNoRune(t, []byte("a\xe4\xb8"), 1)
	wantNoRune(t, []byte("a\xc3"), 1)
}

func TestRuneReadRejectsBadOffsets(t *testing.T) {
	for _, s := range []string{"", "a", "abc", "\xe4\xb8\xad", "\xc3\xa4\xc3\xa4", "\xe4\xb8"} {
		for _, at := range badOffsets(len(s)) {
			wantNoRune(t, []byte(s), at)
		}
	}
	wantNoRune(t, nil, 0)
	wantNoRune(t, nil, -1)
	wantRune(t, []byte("abc"), 0, 97, 1)
	wantRune(t, []byte("abc"), 2, 99, 1)
}

// TestTheRuneOfDefectsIsAnOrdinaryRune: decoders answer 65533 for defects, but its own encoding is found like any other.
func TestTheRuneOfDefectsIsAnOrdinaryRune(t *testing.T) {
	wantRune(t, []byte("\xef\xbf\xbd"), 0, 65533, 3)
	wantRune(t, []byte("\xffa\xef\xbf\xbd\xff"), 2, 65533, 3)
	wantNoRune(t, []byte("\xef\xbf"), 0)
	wantNoRune(t, []byte("\xff\xef\xbf\xbd"), 0)
}

// codeTables holds, for all that RuneBytes returns, the rune of each encoding by its bytes, and all proper prefixes.
type codeTables struct {
	one    [1 << 8]uint16
	two    [1 << 16]uint16
	three  []uint16
	begin1 [1 << 8]bool
	begin2 [1 << 16]bool
}

func newCodeTables() *codeTables {
	c := &codeTables{three: make([]uint16, 1<<24)}
	for _, r := range printableRunes() {
		s := modelRune(r)
		switch len(s) {
		case 1:
			c.one[s[0]] = uint16(r)
		case 2:
			c.two[int(s[0])<<8|int(s[1])] = uint16(r)
			c.begin1[s[0]] = true
		case 3:
			c.three[int(s[0])<<16|int(s[1])<<8|int(s[2])] = uint16(r)
			c.begin1[s[0]] = true
			c.begin2[int(s[0])<<8|int(s[1])] = true
		}
	}
	return c
}

// find returns the rune at the beginning of the three bytes of n, and the number of its bytes.
func (c *codeTables) find(n int) (int, int) {
	if r := c.one[n>>16]; r != 0 {
		return int(r), 1
	}
	if r := c.two[n>>8]; r != 0 {
		return int(r), 2
	}
	if r := c.three[n]; r != 0 {
		return int(r), 3
	}
	return 0, 0
}

func TestRuneReadOfAllThreeBytes(t *testing.T) {
	c := newCodeTables()
	for n := range 1 << 24 {
		b := [...]byte{byte(n >> 16), byte(n >> 8), byte(n)}
		r, size := c.find(n)
		if got, k := impl.RuneRead(b[:], 0); got != r || k != size {
			t.Fatalf("RuneRead(% x, 0) = %d, %d; want %d, %d", b, got, k, r, size)
		}
		if impl.RuneBegin(b[:]) {
			t.Fatalf("RuneBegin(% x) is true", b)
		}
	}
}

func TestRuneReadAndRuneBeginOfFewerBytes(t *testing.T) {
	c := newCodeTables()
	for n := range 1 << 16 {
		b := []byte{byte(n >> 8), byte(n)}
		r, size := c.find(n << 8)
		wantRune(t, b, 0, r, size)
		wantBegin(t, string(b), c.begin2[n])
	}
	for n := range 1 << 8 {
		b := []byte{byte(n)}
		r, size := c.find(n << 16)
		wantRune(t, b, 0, r, size)
		wantBegin(t, string(b), c.begin1[n])
	}
	wantBegin(t, "", false)
	if impl.RuneBegin(nil) {
		t.Error("nothing is the beginning of a rune")
	}
}

func TestRuneBeginOfRunes(t *testing.T) {
	for _, r := range printableRunes() {
		s := modelRune(r)
		for end := range len(s) + 1 {
			wantBegin(t, s[:end], 0 < end && end < len(s))
		}
		wantBegin(t, s+"\x80", false)
		wantBegin(t, s+s[:1], false)
	}
}

func TestRuneBeginOfOtherBytes(t *testing.T) {
	for _, s := range []string{"\xc2", "\xdf", "\xe0", "\xe0\xa0", "\xe0\xbf", "\xe1\x80", "\xed", "\xed\x80", "\xed\x9f", "\xee\x80", "\xef", "\xef\xbf"} {
		wantBegin(t, s, true)
	}
	for _, s := range notEncodings() {
		wantBegin(t, s, false)
	}
	for _, s := range []string{
		// They begin like an encoding.
		"\xe4\xb8a", "\xe4a", "\xe4\xb8\xad\xe4", "\xc3a", "\xc3\xa4a", "ab", "a\xc3", "\x00", "\xe4\xb8\xad\x80", "\xc2\x80\x80",
		// They are prefixes with no printable rune behind them.
		"\xc0", "\xc1", "\xe0\x80", "\xe0\x9f", "\xed\xa0", "\xed\xbf", "\xf0", "\xf0\x90", "\xf0\x90\x80", "\xf1\x80\x80", "\xf4", "\xf4\x8f\xbf",
		"\xf5", "\xf8", "\xfc", "\xff", "\x80", "\xbf",
	} {
		wantBegin(t, s, false)
	}
	wantBegin(t, strings.Repeat("\xe4", 1000), false)
	wantBegin(t, "\xe4"+strings.Repeat("\x80", 1000), false)
}

// TestRunesArriveInAnyPieces: wherever a text is cut, the bytes behind its last whole rune are the beginning of the next one.
func TestRunesArriveInAnyPieces(t *testing.T) {
	text := []byte("az\u00a0\u00e4\u07ff\u0800\u4e2d\ud7ff\ue000\ufffd\uffff~")
	for end := range len(text) + 1 {
		at := 0
		for at < end {
			_, n := impl.RuneRead(text[:end], at)
			if n == 0 {
				break
			}
			at += n
		}
		rest := text[at:end]
		if len(rest) > 2 || impl.RuneBegin(rest) != (len(rest) > 0) {
			t.Errorf("cut at %d, % x remains, and RuneBegin of it is %v", end, rest, impl.RuneBegin(rest))
		}
	}
}

func TestRuneFunctionsLeaveTheirArgumentsAlone(t *testing.T) {
	for _, s := range []string{"\xe4\xb8\xad", "\xe4\xb8", "\xc3", "a", "", "\xff\xfe"} {
		b, all := withSpare(s)
		before := bytes.Clone(all)
		impl.RuneRead(b, 0)
		impl.RuneRead(b, 1)
		impl.RuneBegin(b)
		if !bytes.Equal(all, before) {
			t.Errorf("the bytes % x or the spare capacity behind them were changed", s)
		}
	}
	// What completes these bytes lies behind them.
	rest := []byte("\xe4\xb8\xad")
	wantNoRune(t, rest[:2], 0)
	if !impl.RuneBegin(rest[:2]) || !impl.RuneBegin(rest[:1]) || impl.RuneBegin(rest[:0]) {
		t.Error("RuneBegin depends on the spare capacity")
	}
}

func TestRuneBytesReturnsNewMemory(t *testing.T) {
	for _, r := range []int{65, 228, 20013} {
		one := impl.RuneBytes(r)
		two := impl.RuneBytes(r)
		clear(one[:cap(one)])
		if string(two) != modelRune(r) || string(impl.RuneBytes(r)) != modelRune(r) {
			t.Errorf("two results of RuneBytes(%d) share memory", r)
		}
	}
}

func notColors() []int {
	return []int{-1, -2, -8, -9, 9, 10, 16, 29, 30, 72, 255, 256, 1 << 32, 1<<32 + 1, math.MaxInt, math.MinInt, math.MinInt + 3}
}

// validAttrs are all of them, in the order of their numbers.
func validAttrs() []impl.Attr {
	var l []impl.Attr
	for bg := range 9 {
		for fg := range 9 {
			for mode := range 8 {
				l = append(l, impl.Attr{Fg: fg, Bg: bg, Bold: mode%2 == 1, Under: mode/2%2 == 1, Turn: mode/4 == 1})
			}
		}
	}
	return l
}

func invalidAttrs() []impl.Attr {
	var l []impl.Attr
	for _, n := range notColors() {
		l = append(l,
			impl.Attr{Fg: n}, impl.Attr{Bg: n}, impl.Attr{Fg: n, Bg: n}, impl.Attr{Fg: 8, Bg: n}, impl.Attr{Fg: n, Bg: 8},
			impl.Attr{Fg: n, Bg: -n, Bold: true, Under: true, Turn: true}, impl.Attr{Bg: n, Bold: true}, impl.Attr{Fg: n, Turn: true})
	}
	return l
}

// someAttrs begin with the default and end with every field set.
func someAttrs() []impl.Attr {
	return []impl.Attr{
		{}, {Fg: 1}, {Bg: 8}, {Bold: true}, {Under: true}, {Turn: true}, {Fg: 8, Bg: 1, Under: true}, {Fg: 3, Bg: 5, Bold: true, Turn: true},
		{Fg: 8, Bg: 8, Bold: true, Under: true, Turn: true},
	}
}

func TestAttrOk(t *testing.T) {
	all := validAttrs()
	if len(all) != 648 || !slices.Contains(all, impl.Attr{Fg: 8, Bg: 8, Bold: true, Under: true, Turn: true}) {
		t.Fatal("the list of valid attributes is not complete")
	}
	for _, a := range all {
		if !impl.AttrOk(a) {
			t.Errorf("AttrOk(%+v) is false", a)
		}
	}
	for _, a := range invalidAttrs() {
		if impl.AttrOk(a) {
			t.Errorf("AttrOk(%+v) is true", a)
		}
	}
}

func wantSgr(t *testing.T, a impl.Attr, args []int, want impl.Attr) {
	t.Helper()
	if got := impl.Sgr(a, args); got != want {
		t.Errorf("Sgr(%+v, %d) = %+v; want %+v", a, args, got, want)
	}
}

// modelSgr has a line for each parameter of the document.
func modelSgr(a impl.Attr, args ...int) impl.Attr {
	effects := map[int]func(){
		0:  func() { a = impl.Attr{} },
		1:  func() { a.Bold = true },
		4:  func() { a.Under = true },
		7:  func() { a.Turn = true },
		22: func() { a.Bold = false },
		24: func() { a.Under = false },
		27: func() { a.Turn = false },
		39: func() { a.Fg = 0 },
		49: func() { a.Bg = 0 },
	}
	for color := 1; color <= 8; color++ {
		effects[29+color] = func() { a.Fg = color }
		effects[39+color] = func() { a.Bg = color }
	}
	for _, arg := range args {
		if effect := effects[arg]; effect != nil {
			effect()
		}
	}
	return a
}

func TestSgrWithoutParametersResets(t *testing.T) {
	for _, a := range someAttrs() {
		wantSgr(t, a, nil, impl.Attr{})
		wantSgr(t, a, []int{}, impl.Attr{})
		wantSgr(t, a, []int{9, 9}[:0], impl.Attr{})
	}
}

func TestSgrOfKnownParameters(t *testing.T) {
	full := impl.Attr{Fg: 8, Bg: 8, Bold: true, Under: true, Turn: true}
	cases := []struct {
		from impl.Attr
		args []int
		want impl.Attr
	}{
		{full, []int{0}, impl.Attr{}},
		{impl.Attr{}, []int{1}, impl.Attr{Bold: true}},
		{impl.Attr{}, []int{4}, impl.Attr{Under: true}},
		{impl.Attr{}, []int{7}, impl.Attr{Turn: true}},
		{full, []int{22}, impl.Attr{Fg: 8, Bg: 8, Under: true, Turn: true}},
		{full, []int{24}, impl.Attr{Fg: 8, Bg: 8, Bold: true, Turn: true}},
		{full, []int{27}, impl.Attr{Fg: 8, Bg: 8, Bold: true, Under: true}},
		{full, []int{21}, full},
		{impl.Attr{}, []int{30}, impl.Attr{Fg: 1}},
		{impl.Attr{}, []int{37}, impl.Attr{Fg: 8}},
		{full, []int{38}, full},
		{full, []int{39}, impl.Attr{Bg: 8, Bold: true, Under: true, Turn: true}},
		{impl.Attr{}, []int{40}, impl.Attr{Bg: 1}},
		{impl.Attr{}, []int{47}, impl.Attr{Bg: 8}},
		{full, []int{48}, full},
		{full, []int{49}, impl.Attr{Fg: 8, Bold: true, Under: true, Turn: true}},
		{full, []int{29}, full},
		{full, []int{50}, full},
		{impl.Attr{}, []int{90}, impl.Attr{}},
		{impl.Attr{}, []int{100}, impl.Attr{}},
	}
	for _, c := range cases {
		wantSgr(t, c.from, c.args, c.want)
	}
}

func TestSgrWithEachParameter(t *testing.T) {
	args := []int{math.MinInt, math.MinInt + 1, math.MinInt + 29, math.MinInt + 39, math.MaxInt, math.MaxInt - 1, -30, -39, -100, 9999, 256 + 1, 65536 + 31, 1 << 32, 1<<32 + 1, 1<<32 + 31, 1<<32 + 49}
	for arg := -1; arg <= 110; arg++ {
		args = append(args, arg)
	}
	for _, arg := range args {
		for _, a := range validAttrs() {
			wantSgr(t, a, []int{arg}, modelSgr(a, arg))
		}
	}
}

func TestSgrAppliesItsParametersInOrder(t *testing.T) {
	from := impl.Attr{Fg: 3, Bg: 5, Under: true}
	cases := []struct {
		args []int
		want impl.Attr
	}{
		{[]int{31, 34}, impl.Attr{Fg: 5, Bg: 5, Under: true}},
		{[]int{34, 31}, impl.Attr{Fg: 2, Bg: 5, Under: true}},
		{[]int{1, 22}, impl.Attr{Fg: 3, Bg: 5, Under: true}},
		{[]int{22, 1}, impl.Attr{Fg: 3, Bg: 5, Bold: true, Under: true}},
		{[]int{24, 4}, impl.Attr{Fg: 3, Bg: 5, Under: true}},
		{[]int{4, 24}, impl.Attr{Fg: 3, Bg: 5}},
		{[]int{1, 0}, impl.Attr{}},
		{[]int{0, 1}, impl.Attr{Bold: true}},
		{[]int{7, 0, 42, 0, 33}, impl.Attr{Fg: 4}},
		{[]int{39, 31}, impl.Attr{Fg: 2, Bg: 5, Under: true}},
		{[]int{31, 39}, impl.Attr{Bg: 5, Under: true}},
		{[]int{49, 41}, impl.Attr{Fg: 3, Bg: 2, Under: true}},
		{[]int{41, 49}, impl.Attr{Fg: 3, Under: true}},
		{[]int{31, 47, 31, 40}, impl.Attr{Fg: 2, Bg: 1, Under: true}},
		{[]int{38, 5, 1}, impl.Attr{Fg: 3, Bg: 5, Bold: true, Under: true}},
		{[]int{-1, 1000, 999999}, from},
	}
	for _, c := range cases {
		wantSgr(t, from, c.args, c.want)
	}
}

func TestSgrOfRandomParameters(t *testing.T) {
	r := rand.New(rand.NewSource(6))
	all := validAttrs()
	for range 20000 {
		args := make([]int, 1+r.Intn(12))
		for i := range args {
			args[i] = r.Intn(53) - 1
		}
		a := all[r.Intn(len(all))]
		wantSgr(t, a, args, modelSgr(a, args...))
		if !impl.AttrOk(impl.Sgr(a, args)) {
			t.Fatalf("Sgr(%+v, %d) is not valid", a, args)
		}
	}
}

func TestSgrOfInvalidAttributes(t *testing.T) {
	for _, a := range invalidAttrs() {
		for _, args := range [][]int{nil, {0}, {1}, {31}, {39, 49}, {0, 1, 31, 41}, {0, 4}} {
			wantSgr(t, a, args, impl.Attr{})
		}
	}
}

func TestSgrLeavesItsArgumentsAlone(t *testing.T) {
	all := []int{1, 31, 0, 99, 47, 4, 7, 7, 7}
	before := slices.Clone(all)
	wantSgr(t, impl.Attr{Turn: true}, all[:5], impl.Attr{Bg: 8})
	wantSgr(t, impl.Attr{Fg: 9}, all[:5], impl.Attr{})
	wantSgr(t, impl.Attr{Turn: true}, all[:0], impl.Attr{})
	if !slices.Equal(all, before) {
		t.Errorf("the parameters or the spare capacity behind them were changed: %d", all)
	}
}

// modelSgrText joins the parameters, which the document puts behind semicolons.
func modelSgrText(a impl.Attr) string {
	args := []string{"0"}
	for _, m := range []struct {
		set bool
		arg int
	}{{a.Bold, 1}, {a.Under, 4}, {a.Turn, 7}, {a.Fg != 0, a.Fg + 29}, {a.Bg != 0, a.Bg + 39}} {
		if m.set {
			args = append(args, fmt.Sprint(m.arg))
		}
	}
	return "\x1b[" + strings.Join(args, ";") + "m"
}

func TestSgrText(t *testing.T) {
	known := []struct {
		a impl.Attr
		s string
	}{
		{impl.Attr{}, "\x1b[0m"},
		{impl.Attr{Bold: true}, "\x1b[0;1m"},
		{impl.Attr{Under: true}, "\x1b[0;4m"},
		{impl.Attr{Turn: true}, "\x1b[0;7m"},
		{impl.Attr{Fg: 1}, "\x1b[0;30m"},
		{impl.Attr{Fg: 8}, "\x1b[0;37m"},
		{impl.Attr{Bg: 1}, "\x1b[0;40m"},
		{impl.Attr{Bg: 8}, "\x1b[0;47m"},
		{impl.Attr{Fg: 8, Bg: 8, Bold: true, Under: true, Turn: true}, "\x1b[0;1;4;7;37;47m"},
	}
	for _, k := range known {
		if got := impl.SgrText(k.a); got != k.s {
			t.Errorf("SgrText(%+v) = %q; want %q", k.a, got, k.s)
		}
	}
	for _, a := range validAttrs() {
		if got := impl.SgrText(a); got != modelSgrText(a) {
			t.Errorf("SgrText(%+v) = %q; want %q", a, got, modelSgrText(a))
		}
	}
	for _, a := range invalidAttrs() {
		if got := impl.SgrText(a); got != "" {
			t.Errorf("SgrText(%+v) = %q; want the empty string", a, got)
		}
	}
}

// TestSgrTextSetsItsAttribute: whatever was set before, the parameters of the text lead to the attribute.
func TestSgrTextSetsItsAttribute(t *testing.T) {
	for _, a := range validAttrs() {
		text := impl.SgrText(a)
		inner, found := strings.CutPrefix(text, "\x1b[")
		inner, ended := strings.CutSuffix(inner, "m")
		if !found || !ended {
			t.Fatalf("SgrText(%+v) = %q", a, text)
		}
		var args []int
		for word := range strings.SplitSeq(inner, ";") {
			n, ok := impl.TextNum(word)
			if !ok {
				t.Fatalf("SgrText(%+v) = %q", a, text)
			}
			args = append(args, n)
		}
		for _, before := range someAttrs() {
			wantSgr(t, before, args, a)
		}
	}
}

func TestAttrNumAndNumAttr(t *testing.T) {
	for n, a := range validAttrs() {
		want := 72*a.Bg + 8*a.Fg
		for _, m := range []struct {
			set    bool
			weight int
		}{{a.Bold, 1}, {a.Under, 2}, {a.Turn, 4}} {
			if m.set {
				want += m.weight
			}
		}
		if got := impl.AttrNum(a); got != want || got != n {
			t.Errorf("AttrNum(%+v) = %d; want %d", a, got, want)
		}
		if got, ok := impl.NumAttr(want); got != a || !ok {
			t.Errorf("NumAttr(%d) = %+v, %v; want %+v, true", want, got, ok, a)
		}
	}
	for _, a := range invalidAttrs() {
		if got := impl.AttrNum(a); got != -1 {
			t.Errorf("AttrNum(%+v) = %d; want -1", a, got)
		}
	}
}

func TestNumAttrOfKnownNumbers(t *testing.T) {
	full := impl.Attr{Fg: 8, Bg: 8, Bold: true, Under: true, Turn: true}
	// From 72 on, digits of eight or sixteen values would give another Fg, up to 9 and more.
	want := map[int]impl.Attr{
		0: {}, 1: {Bold: true}, 2: {Under: true}, 4: {Turn: true}, 7: {Bold: true, Under: true, Turn: true}, 8: {Fg: 1}, 63: {Fg: 7, Bold: true, Under: true, Turn: true},
		64: {Fg: 8}, 71: {Fg: 8, Bold: true, Under: true, Turn: true}, 72: {Bg: 1}, 73: {Bg: 1, Bold: true}, 80: {Fg: 1, Bg: 1}, 96: {Fg: 3, Bg: 1}, 120: {Fg: 6, Bg: 1},
		127: {Fg: 6, Bg: 1, Bold: true, Under: true, Turn: true}, 128: {Fg: 7, Bg: 1}, 136: {Fg: 8, Bg: 1}, 143: {Fg: 8, Bg: 1, Bold: true, Under: true, Turn: true},
		144: {Bg: 2}, 575: {Fg: 8, Bg: 7, Bold: true, Under: true, Turn: true}, 576: {Bg: 8}, 639: {Fg: 7, Bg: 8, Bold: true, Under: true, Turn: true}, 640: {Fg: 8, Bg: 8}, 647: full,
	}
	for n, a := range want {
		if got, ok := impl.NumAttr(n); got != a || !ok {
			t.Errorf("NumAttr(%d) = %+v, %v; want %+v, true", n, got, ok, a)
		}
	}
}

func TestNumAttrRejectsOtherNumbers(t *testing.T) {
	numbers := []int{
		math.MinInt, math.MinInt + 1, math.MinInt + 72, -1 << 32, -72, -71, -64, -8, -7, -2, -1, math.MaxInt, math.MaxInt - 7,
		65536, 1 << 32, 1<<32 + 7, 1<<32 + 647, 1 << 62, 1<<62 + 72,
	}
	for n := 648; n < 3000; n++ {
		numbers = append(numbers, n, -n)
	}
	for _, n := range numbers {
		if a, ok := impl.NumAttr(n); a != (impl.Attr{}) || ok {
			t.Errorf("NumAttr(%d) = %+v, %v; want the zero value, false", n, a, ok)
		}
	}
}
