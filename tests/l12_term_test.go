package tests

import (
	"encoding/binary"
	"fmt"
	"math"
	"math/rand"
	"slices"
	"strings"
	"sync"
	"testing"

	"loop.example/g00661/impl"
)

func newTerm(t *testing.T, w int, h int, limit int) impl.Term {
	t.Helper()
	m, ok := impl.TermNew(w, h, limit)
	if !ok {
		t.Fatalf("TermNew(%d, %d, %d) returns false", w, h, limit)
	}
	return m
}

// sampleTerm has a value in every field but Part, Wrap and those that it would make invalid.
func sampleTerm() impl.Term { return impl.Term{P: csiVp(true, 4, 0, 9999), S: baseScr()} }

func deepTerm(m impl.Term) impl.Term { return impl.Term{P: deepVp(m.P), S: deepScr(m.S)} }

func equalTerms(a, b impl.Term) bool { return equalVps(a.P, b.P) && equalScrs(a.S, b.S) }

func termText(m impl.Term) string { return fmt.Sprintf("%+v and %s", m.P, scrText(m.S)) }

func wantTerm(t *testing.T, what string, got, want impl.Term) {
	t.Helper()
	if !equalTerms(got, want) {
		t.Errorf("%s:\n the terminal is %s;\n want %s", what, termText(got), termText(want))
	}
}

func wantNoTerm(t *testing.T, what string, got impl.Term) {
	t.Helper()
	wantTerm(t, what, got, impl.Term{})
}

func modelTermOk(m impl.Term) bool { return modelVpOk(m.P) && modelScrOk(m.S) }

func TestTermConstant(t *testing.T) {
	if impl.MaxTerm != 40000 {
		t.Error("MaxTerm has another value")
	}
}

func TestTermOk(t *testing.T) {
	check := func(what string, m impl.Term, want bool) {
		t.Helper()
		if impl.TermOk(m) != want || modelTermOk(m) != want {
			t.Errorf("TermOk is %v: %s: %s", !want, what, termText(m))
		}
	}
	good, bad := validVps(), invalidScrs()
	check("the zero value", impl.Term{}, false)
	for _, p := range good {
		for _, c := range goodChanges() {
			check(c.what, impl.Term{P: p, S: changedScr(baseScr(), c.change)}, true)
		}
	}
	for i, s := range bad {
		check("a bad screen alone", impl.Term{S: s}, false)
		check("a good parser and a bad screen", impl.Term{P: good[i%len(good)], S: s}, false)
	}
	for i, p := range invalidVps() {
		check("a bad parser alone", impl.Term{P: p, S: baseScr()}, false)
		check("a bad parser and no screen", impl.Term{P: p}, false)
		check("a bad parser and a bad screen", impl.Term{P: p, S: bad[i%len(bad)]}, false)
	}
}

func checkTermNew(t *testing.T, w int, h int, limit int) {
	t.Helper()
	m, ok := impl.TermNew(w, h, limit)
	want := impl.Term{}
	wantOk := modelSize(w, h) && limit >= 0 && limit <= 100
	if wantOk {
		want.S = impl.Scr{W: w, H: h, Main: blankGrid(w, h), Alt: blankGrid(w, h), Bot: h - 1, Tabs: modelTabs(w), Limit: limit}
	}
	what := fmt.Sprintf("TermNew(%d, %d, %d)", w, h, limit)
	if ok != wantOk || impl.TermOk(m) != wantOk {
		t.Errorf("%s returns %v, and TermOk of it is %v; want %v", what, ok, impl.TermOk(m), wantOk)
	}
	wantTerm(t, what, m, want)
}

func TestTermNew(t *testing.T) {
	sizes := append(badSizes(), smallSizes()...)
	sizes = append(sizes, [2]int{80, 25}, [2]int{120, 33}, [2]int{33, 120}, [2]int{100, 40}, [2]int{40, 100}, [2]int{120, 1}, [2]int{1, 120}, [2]int{8, 2}, [2]int{9, 2})
	for _, size := range sizes {
		for _, limit := range []int{-1, 0, 1, 99, 100, 101, math.MinInt, math.MaxInt} {
			checkTermNew(t, size[0], size[1], limit)
		}
	}
	for _, n := range append(extremeInts(), -1, 0, 1, 2, 33, 34, 99, 100, 101, 119, 120, 121) {
		checkTermNew(t, n, 5, 3)
		checkTermNew(t, 5, n, 3)
		checkTermNew(t, 5, 5, n)
		checkTermNew(t, n, n, n)
	}
}

var theClasses = sync.OnceValue(func() *[4][256]string {
	c := byteClasses()
	return &c
})

// modelFed gives each byte to the model of the parser, and each act to that of the screen.
func modelFed(m impl.Term, text string) impl.Term {
	m = deepTerm(m)
	for _, b := range []byte(text) {
		p, a := modelByte(theClasses(), m.P, int(b))
		m.P = p
		if a.Kind != impl.ActNone {
			m.S = modelAct(m.S, a)
		}
	}
	return m
}

// fed gives the pieces of an output to a terminal, one after the other.
func fed(m impl.Term, pieces ...string) impl.Term {
	for _, piece := range pieces {
		m = impl.TermFeed(m, []byte(piece))
	}
	return m
}

// checkFed compares the output in one piece with the models, and asks that the result is valid.
func checkFed(t *testing.T, m impl.Term, text string) impl.Term {
	t.Helper()
	got, want := fed(m, text), modelFed(m, text)
	if !equalTerms(got, want) || !impl.TermOk(got) || !modelTermOk(got) {
		wantTerm(t, fmt.Sprintf("TermFeed of %q to %s", text, termText(m)), got, want)
		t.Fatalf("%q: the result is valid: %v", text, impl.TermOk(got))
	}
	return got
}

func TestTermFeedOfNoBytes(t *testing.T) {
	for _, p := range validVps() {
		for _, c := range goodChanges() {
			m := impl.Term{P: p, S: changedScr(baseScr(), c.change)}
			wantTerm(t, c.what+": nil", impl.TermFeed(m, nil), m)
			wantTerm(t, c.what+": no bytes", impl.TermFeed(m, []byte{}), m)
		}
	}
}

func TestTermFeedOfOneByte(t *testing.T) {
	for i, p := range validVps() {
		for b := range 256 {
			s := sampleScr(3, 2, 2, 2)
			s.OnAlt = (i+b)%2 == 1
			if (i+b)%3 == 0 {
				s.X, s.Y, s.Wrap = 2, 1, true
			}
			checkFed(t, impl.Term{P: p, S: s}, string([]byte{byte(b)}))
		}
	}
}

func TestTermFeedKnown(t *testing.T) {
	m := newTerm(t, 6, 3, 2)
	known := []struct {
		text  string
		x, y  int
		wrap  bool
		shown string
		back  []string
		p     impl.Vp
	}{
		{"", 0, 0, false, "|||", nil, impl.Vp{}},
		{"ab", 2, 0, false, "ab|||", nil, impl.Vp{}},
		{"ab\r\n\u00e4\u4e2d", 2, 1, false, "ab|\u00e4\u4e2d||", nil, impl.Vp{}},
		{"ab\xe4\xb8", 2, 0, false, "ab|||", nil, plainVp("\xe4\xb8")},
		{"ab\xe4\xb8\xad", 3, 0, false, "ab\u4e2d|||", nil, impl.Vp{}},
		{"ab\xe4\xb8c", 3, 0, false, "abc|||", nil, impl.Vp{}},
		{"ab\xe4\xb8\xff", 3, 0, false, "ab\ufffd|||", nil, impl.Vp{}},
		{"ab\x1b", 2, 0, false, "ab|||", nil, impl.Vp{State: impl.VpEsc}},
		{"ab\x1b[", 2, 0, false, "ab|||", nil, csiVp(false)},
		{"ab\x1b[?25;", 2, 0, false, "ab|||", nil, csiVp(true, 25, 0)},
		{"ab\x1b[2;", 2, 0, false, "ab|||", nil, csiVp(false, 2, 0)},
		{"ab\x1b[2;4Hc", 4, 1, false, "ab|   c||", nil, impl.Vp{}},
		{"ab\x1b[2\n;4Hc", 4, 1, false, "ab|   c||", nil, impl.Vp{}},
		{"ab\x1b[1!4Hc", 3, 0, false, "abc|||", nil, impl.Vp{}},
		{"ab\x1b[1!", 2, 0, false, "ab|||", nil, skipVp(false, 1)},
		{"abcdef", 5, 0, true, "abcdef|||", nil, impl.Vp{}},
		{"abcdefg", 1, 1, false, "abcdef|g||", nil, impl.Vp{}},
		{"a\r\nb\r\nc\r\nd", 1, 2, false, "b|c|d|", []string{"a"}, impl.Vp{}},
		{"a\r\nb\r\nc\r\nd\r\ne\r\nf", 1, 2, false, "d|e|f|", []string{"b", "c"}, impl.Vp{}},
		{"a\x1b[?1049hb", 2, 0, false, " b|||", nil, impl.Vp{}},
		{"a\x1b[?1049hb\x1b[?1049lc", 2, 0, false, "ac|||", nil, impl.Vp{}},
		{"a\x1b[2;3r\x1b[3;1Hb\x1bDc", 2, 2, false, "a|b| c|", nil, impl.Vp{}},
		{"\x1b7abc\x1b8\x1b[@d", 1, 0, false, "dabc|||", nil, impl.Vp{}},
		{"abc\x1bcd", 1, 0, false, "d|||", nil, impl.Vp{}},
	}
	for _, k := range known {
		got := fed(m, k.text)
		wantKnown(t, fmt.Sprintf("%q", k.text), got.S, k.x, k.y, k.wrap, k.shown, k.back...)
		wantVp(t, fmt.Sprintf("%q", k.text), got.P, k.p)
		checkFed(t, m, k.text)
	}
	bold := fed(m, "\x1b[1;3", "1;44mx")
	if c := impl.GridAt(bold.S.Main, 0, 0); c != (impl.Cell{R: 'x', A: impl.Attr{Fg: 2, Bg: 5, Bold: true}}) {
		t.Errorf("the cell is %+v", c)
	}
}

// termOutputs change grids, regions, modes and attributes, and have runes and sequences that can be cut.
func termOutputs() []string {
	return append(sampleTexts(),
		"", "a", "\xe4\xb8\xad\xc3\xa9\xef\xbf\xbf", "long text that wraps around and scrolls", "\t\x1bHa\t\x1b[3g\tb\b\bc\x0b\x0cd",
		csi+"?1049hon alt"+csi+"2J"+csi+"1;1H"+csi+"?1049lmain", csi+"2;3r\n\n\n"+csi+"3;2Hx\n\ny"+csi+"r"+csi+"T"+csi+"2S",
		csi+"?7labcdefgh"+csi+"?7hijklm"+csi+"?25l"+csi+"?25h"+csi+"?7;25l", csi+"1;4;7;31;44mx"+csi+"0my"+csi+"38;5;200mz"+csi+"mw"+csi+"22;24;27;39;49mv",
		"ab"+esc+"7"+csi+"4;4H"+csi+"36mcd"+esc+"8ef"+csi+"@"+csi+"2P"+csi+"L"+csi+"M"+csi+"3X"+csi+"1K"+csi+"J", esc+"c"+csi+"99999;99999H"+csi+"?1049h"+esc+"D"+esc+"E"+esc+"M"+esc+"c\xc3",
	)
}

// TestOutputOfAProcessInAnyPieces is the part of P7 about pieces: every output in one piece, byte by byte, and cut at every place and at every two.
func TestOutputOfAProcessInAnyPieces(t *testing.T) {
	for _, m := range []impl.Term{newTerm(t, 6, 4, 3), {P: plainVp("\xe4"), S: baseScr()}, {P: csiVp(false, 3), S: baseScr()}} {
		for _, text := range termOutputs() {
			whole := checkFed(t, m, text)
			wantTerm(t, fmt.Sprintf("%q byte by byte", text), fed(m, chunks(text, 1)...), whole)
			for i := range len(text) + 1 {
				wantTerm(t, fmt.Sprintf("%q cut at %d", text, i), fed(m, text[:i], text[i:]), whole)
				for j := i; j <= len(text) && len(text) < 40; j++ {
					wantTerm(t, fmt.Sprintf("%q cut at %d and %d", text, i, j), fed(m, text[:i], text[i:j], text[j:]), whole)
				}
			}
		}
	}
}

func randomTerm(r *rand.Rand) impl.Term {
	all := validVps()
	return impl.Term{P: all[r.Intn(len(all))], S: setModes(r, randomScr(r))}
}

// randomOutputs also have pieces of sequences and runes, which may continue what is there.
func randomOutputs(r *rand.Rand) string { return randomText(r) + randomOutput(r) + randomText(r) }

func TestRandomOutputInRandomPieces(t *testing.T) {
	r := rand.New(rand.NewSource(18))
	for range 1500 {
		m, text := randomTerm(r), randomOutputs(r)
		whole := checkFed(t, m, text)
		if whole.S.W != m.S.W || whole.S.H != m.S.H || whole.S.Limit != m.S.Limit || len(whole.S.Back) > m.S.Limit {
			t.Fatalf("%q makes %s of %s", text, termText(whole), termText(m))
		}
		got := m
		for rest := text; rest != ""; {
			n := r.Intn(len(rest) + 1)
			got = checkFed(t, got, rest[:n])
			rest = rest[n:]
		}
		wantTerm(t, fmt.Sprintf("%q in pieces", text), got, whole)
	}
}

func invalidTerms() []impl.Term {
	l := []impl.Term{{}, {P: csiVp(true, 1)}}
	for i, p := range invalidVps() {
		if i%5 == 0 {
			l = append(l, impl.Term{P: p, S: baseScr()}, impl.Term{P: p})
		}
	}
	for i, s := range invalidScrs() {
		l = append(l, impl.Term{S: s}, impl.Term{P: validVps()[i%len(validVps())], S: s})
	}
	return append(l, impl.Term{P: invalidVps()[0], S: invalidScrs()[5]})
}

func TestInvalidTerminals(t *testing.T) {
	for i, m := range invalidTerms() {
		what := fmt.Sprint("the invalid terminal ", i)
		for _, text := range []string{"", "a", "\x18", "\x1bc", "\x1b[1;2mabc"} {
			wantNoTerm(t, what, fed(m, text))
		}
		for _, size := range [][2]int{{5, 4}, {m.S.W, m.S.H}, {1, 1}, {120, 33}, {0, 0}, {-1, 5}} {
			got, ok := impl.TermSize(m, size[0], size[1])
			wantNoTerm(t, what, got)
			if ok {
				t.Errorf("%s: TermSize returns true", what)
			}
		}
		if b, ok := impl.TermBytes(m); len(b) != 0 || ok {
			t.Errorf("%s: TermBytes returns %d bytes and %v", what, len(b), ok)
		}
	}
}

// TestWrittenRunesAreDisplayed is the part of P7 about runes on a new screen: rows of its width, the last ones displayed, and the others in the scrollback, up to its limit.
func TestWrittenRunesAreDisplayed(t *testing.T) {
	runes := printableRunes()
	r := rand.New(rand.NewSource(19))
	for _, size := range append(smallSizes(), [2]int{9, 3}, [2]int{40, 10}) {
		for _, limit := range []int{0, 1, 3, 100} {
			for _, n := range []int{0, 1, size[0] - 1, size[0], size[0] + 1, size[0] * size[1], size[0]*size[1] + 1, 3*size[0]*size[1] + 2, 1 + r.Intn(800)} {
				var cells []impl.Cell
				var text strings.Builder
				for range n {
					c := impl.Cell{R: runes[[]int{r.Intn(95), r.Intn(2000), r.Intn(len(runes))}[r.Intn(3)]]}
					cells = append(cells, c)
					text.WriteString(modelRune(c.R))
				}
				pieces := chunks(text.String(), 1+r.Intn(7))
				checkDisplayed(t, fed(newTerm(t, size[0], size[1], limit), pieces...), cells)
				checkDisplayed(t, fed(newTerm(t, size[0], size[1], limit), text.String()), cells)
			}
		}
	}
}

func checkDisplayed(t *testing.T, m impl.Term, cells []impl.Cell) {
	t.Helper()
	w, h := m.S.W, m.S.H
	rows := max(1, (len(cells)+w-1)/w)
	gone := max(0, rows-h)
	shown := slices.Clone(cells[gone*w:])
	for len(shown) < w*h {
		shown = append(shown, blankCell())
	}
	what := fmt.Sprintf("%d runes on %d, %d", len(cells), w, h)
	wantGrid(t, what, impl.Shown(m.S), impl.Grid{W: w, H: h, Cells: shown})
	kept := min(gone, m.S.Limit)
	if len(m.S.Back) != kept {
		t.Fatalf("%s: %d rows are kept; want %d", what, len(m.S.Back), kept)
	}
	for i, row := range m.S.Back {
		at := (gone - kept + i) * w
		if !slices.Equal(row.Cells, cells[at:at+w]) {
			t.Fatalf("%s: the row %d of the scrollback is %q", what, i, rowText(row))
		}
	}
}

// TestBytesOfAttributes is the part of P7 about attributes: their bytes set them, whatever the parser has begun and whatever was written with before.
func TestBytesOfAttributes(t *testing.T) {
	parsers := validVps()
	before := someAttrs()
	for i, a := range validAttrs() {
		for k := range 2 * len(before) {
			s := baseScr()
			s.A, s.OnAlt = before[k/2], k%2 == 1
			m := impl.Term{P: parsers[(i+k)%len(parsers)], S: s}
			got := fed(m, impl.SgrText(a), "xy")
			for _, x := range []int{2, 3} {
				if c := impl.GridAt(impl.Shown(got.S), x, 1); c.A != a || c.R != 'x'+x-2 {
					t.Fatalf("%q after %+v: the cell is %+v", impl.SgrText(a), m.S.A, c)
				}
			}
			want := modelWrite(modelWrite(changedScr(s, func(s *impl.Scr) { s.A = a }), 'x'), 'y')
			wantTerm(t, impl.SgrText(a), got, impl.Term{S: want})
		}
	}
	m := newTerm(t, 3, 1, 0)
	for i, a := range validAttrs() {
		before := validAttrs()[(i*37+5)%648]
		m = fed(m, "\r"+impl.SgrText(before)+"a"+impl.SgrText(a)+"b"+impl.SgrText(before)+"c")
		if got := impl.Shown(m.S).Cells; !slices.Equal(got, []impl.Cell{{R: 'a', A: before}, {R: 'b', A: a}, {R: 'c', A: before}}) {
			t.Fatalf("%+v between %+v: the cells are %+v", a, before, got)
		}
	}
}

// checkTermSized expects what the model makes of the screen, with the same parser state.
func checkTermSized(t *testing.T, m impl.Term, w int, h int) impl.Term {
	t.Helper()
	got, ok := impl.TermSize(m, w, h)
	s, wantOk := modelSized(m.S, w, h)
	want := impl.Term{}
	if wantOk {
		want = impl.Term{P: m.P, S: s}
	}
	if !equalTerms(got, want) || ok != wantOk || impl.TermOk(got) != wantOk {
		wantTerm(t, fmt.Sprintf("TermSize to %d, %d of %s", w, h, termText(m)), got, want)
		t.Fatalf("TermSize to %d, %d returns %v, and the result is valid: %v; want %v", w, h, ok, impl.TermOk(got), wantOk)
	}
	return got
}

func TestTermSize(t *testing.T) {
	for _, p := range validVps() {
		for i, c := range goodChanges() {
			m := impl.Term{P: p, S: changedScr(baseScr(), c.change)}
			m.S.Y = i % 4
			for _, size := range [][2]int{{5, 4}, {6, 5}, {4, 3}, {1, 1}, {9, 2}, {3, 8}, {0, 4}, {5, 0}, {-1, -1}, {121, 1}} {
				checkTermSized(t, m, size[0], size[1])
			}
		}
		m := impl.Term{P: p, S: sampleScr(20, 9, 5, 4)}
		for _, size := range [][2]int{{120, 33}, {33, 120}, {100, 40}, {120, 34}, {101, 40}, {20, 9}, {19, 8}, {21, 10}, {math.MinInt, math.MaxInt}, {math.MaxInt, math.MaxInt}, {math.MinInt, math.MinInt}, {1 << 32, 1 << 32}} {
			checkTermSized(t, m, size[0], size[1])
		}
	}
	for _, size := range badSizes() {
		checkTermSized(t, sampleTerm(), size[0], size[1])
	}
}

// TestOutputGoesOnAfterASize: what the parser has begun is completed on the screen of the new size.
func TestOutputGoesOnAfterASize(t *testing.T) {
	m := newTerm(t, 6, 3, 2)
	for _, k := range []struct{ first, then, shown string }{
		{"ab\x1b[1;3", "Hx", "abx|"}, {"ab\x1b[?104", "9hx", "  x|"}, {"ab\xe4\xb8", "\xad", "ab\u4e2d|"}, {"ab\xe4", "\xb8\xad", "ab\u4e2d|"}, {"ab\x1b", "cx", "x|"}, {"ab\x1b[!1", ";2mx", "abx|"},
	} {
		got := fed(checkTermSized(t, fed(m, k.first), 4, 1), k.then)
		wantKnown(t, fmt.Sprintf("%q and %q", k.first, k.then), changedScr(got.S, func(s *impl.Scr) { s.X = 0 }), 0, 0, false, k.shown)
	}
	r := rand.New(rand.NewSource(20))
	for range 300 {
		m := randomTerm(r)
		for range 5 {
			m = checkFed(t, m, randomOutputs(r))
			m = checkTermSized(t, m, 1+r.Intn(12), 1+r.Intn(8))
		}
	}
}

// modelTermBytes is for valid terminals.
func modelTermBytes(m impl.Term) string {
	s, p := m.S, m.P
	flags := 0
	for i, set := range []bool{s.OnAlt, s.Wrap, s.NoWrap, s.Hide, p.Mark} {
		if set {
			flags += []int{1, 2, 4, 8, 16}[i]
		}
	}
	numbers := []int{s.W, s.H, flags, s.X, s.Y, modelAttrNum(s.A), s.Top, s.Bot, s.SaveX, s.SaveY, modelAttrNum(s.SaveA), s.Limit, p.State}
	numbers = append(append(numbers, len(p.Args)), p.Args...)
	numbers = append(numbers, len(p.Part))
	for _, c := range p.Part {
		numbers = append(numbers, int(c))
	}
	numbers = append(append(numbers, len(s.Tabs)), s.Tabs...)
	text := varints(numbers) + modelCells(s.Main.Cells) + modelCells(s.Alt.Cells) + varint(len(s.Back))
	for _, row := range s.Back {
		text += varint(len(row.Cells)) + modelCells(row.Cells)
	}
	return text
}

func varints(numbers []int) string {
	var b strings.Builder
	for _, n := range numbers {
		b.WriteString(varint(n))
	}
	return b.String()
}

// modelNumbers splits bytes into numbers: an encoding of a terminal has nothing else in it.
func modelNumbers(text string) ([]int, bool) {
	var l []int
	for rest := []byte(text); len(rest) > 0; {
		n, size := binary.Uvarint(rest)
		if size <= 0 || n > 4294967295 || varint(int(n)) != string(rest[:size]) {
			return nil, false
		}
		l, rest = append(l, int(n)), rest[size:]
	}
	return l, true
}

// numberReader takes one number after the other, or remembers that there was none.
type numberReader struct {
	rest []int
	bad  bool
}

func (r *numberReader) take() int {
	if r.bad || len(r.rest) == 0 {
		r.bad = true
		return 0
	}
	n := r.rest[0]
	r.rest = r.rest[1:]
	return n
}

func (r *numberReader) takeList() []int {
	n := r.take()
	if n > len(r.rest) {
		r.bad = true
		return nil
	}
	l := r.rest[:n]
	r.rest = r.rest[n:]
	return slices.Clone(l)
}

func (r *numberReader) takeCells(n int) []impl.Cell {
	var l []impl.Cell
	for len(l) < n && !r.bad {
		size, c, a := r.take(), r.take(), r.take()
		r.bad = r.bad || size < 1 || size > n-len(l) || a > 647
		if !r.bad {
			l = append(l, slices.Repeat([]impl.Cell{{R: c, A: modelNumAttr(a)}}, size)...)
		}
	}
	return l
}

// modelTermRead accepts a valid terminal if its encoding by the other model is just this.
func modelTermRead(text string) (impl.Term, bool) {
	numbers, ok := modelNumbers(text)
	r := &numberReader{rest: numbers, bad: !ok}
	var m impl.Term
	var flags, a, saveA int
	s, p := &m.S, &m.P
	for _, n := range []*int{&s.W, &s.H, &flags, &s.X, &s.Y, &a, &s.Top, &s.Bot, &s.SaveX, &s.SaveY, &saveA, &s.Limit, &p.State} {
		*n = r.take()
	}
	s.OnAlt, s.Wrap, s.NoWrap, s.Hide, p.Mark = flags%2 == 1, flags%4 > 1, flags%8 > 3, flags%16 > 7, flags > 15
	p.Args = r.takeList()
	for _, n := range r.takeList() {
		r.bad = r.bad || n > 255
		p.Part = append(p.Part, byte(n))
	}
	s.Tabs = r.takeList()
	if r.bad || flags > 31 || a > 647 || saveA > 647 || !modelSize(s.W, s.H) {
		return impl.Term{}, false
	}
	s.A, s.SaveA = modelNumAttr(a), modelNumAttr(saveA)
	s.Main = impl.Grid{W: s.W, H: s.H, Cells: r.takeCells(s.W * s.H)}
	s.Alt = impl.Grid{W: s.W, H: s.H, Cells: r.takeCells(s.W * s.H)}
	for range min(101, r.take()) {
		s.Back = append(s.Back, impl.Row{Cells: r.takeCells(min(121, r.take()))})
	}
	if r.bad || len(r.rest) > 0 || !modelTermOk(m) || len(text) > 40000 || modelTermBytes(m) != text {
		return impl.Term{}, false
	}
	return m, true
}

// checkTermRead compares one call with its model, and tells whether there is a terminal.
func checkTermRead(t *testing.T, what string, text string) bool {
	t.Helper()
	got, ok := impl.TermRead([]byte(text))
	want, wantOk := modelTermRead(text)
	if ok != wantOk || !equalTerms(got, want) {
		t.Errorf("%s: TermRead of % .60x returns %v; want %v", what, text, ok, wantOk)
		wantTerm(t, what, got, want)
	}
	return ok
}

func wantNoTermRead(t *testing.T, what string, text string) {
	t.Helper()
	if m, ok := impl.TermRead([]byte(text)); ok || !equalTerms(m, impl.Term{}) {
		t.Errorf("%s: TermRead of %d bytes returns %v and %s; want zero values", what, len(text), ok, termText(m))
	}
}

// wantRecovered is the part of P5 about terminals. It returns the encoding.
func wantRecovered(t *testing.T, what string, m impl.Term) string {
	t.Helper()
	b, ok := impl.TermBytes(m)
	if want := modelTermBytes(m); !ok || string(b) != want {
		t.Fatalf("%s: TermBytes returns % .80x and %v; want % .80x and true", what, b, ok, want)
	}
	got, ok := impl.TermRead(b)
	if !ok || !equalTerms(got, m) || !impl.TermOk(got) {
		wantTerm(t, what, got, m)
		t.Fatalf("%s: TermRead returns %v, and the result is valid: %v", what, ok, impl.TermOk(got))
	}
	return string(b)
}

func TestTermBytesKnown(t *testing.T) {
	zeros := func(n int) string { return strings.Repeat("\x00", n) }
	known := map[string]impl.Term{
		"\x01\x01" + zeros(14) + "\x01 \x00\x01 \x00\x00":                                                                                                   newTerm(t, 1, 1, 0),
		"\x09\x02\x00\x00\x00\x00\x00\x01\x00\x00\x00\x64\x00\x00\x00\x01\x08\x12 \x00\x12 \x00\x00":                                                        newTerm(t, 9, 2, 100),
		"\x78\x21" + zeros(5) + "\x20" + zeros(6) + "\x00\x0e\x08\x10\x18 (08@HPX`hp\xf8\x1e \x00\xf8\x1e \x00\x00":                                         newTerm(t, 120, 33, 0),
		"\x03\x02\x00\x02\x00\x00\x00\x01\x00\x00\x00\x02\x00\x00\x00\x00\x01a\x00\x01b\x00\x04 \x00\x06 \x00\x00":                                          fed(newTerm(t, 3, 2, 2), "ab"),
		"\x03\x02\x02\x02\x00\x00\x00\x01\x00\x00\x00\x02\x00\x00\x00\x00\x03a\x00\x03 \x00\x06 \x00\x00":                                                   fed(newTerm(t, 3, 2, 2), "aaa"),
		"\x03\x02\x09\x00\x01\xa1\x01\x00\x01\x00\x00\x00\x02\x00\x00\x00\x00\x06 \x00\x03 \x00\x01\xad\x9c\x01\xa1\x01\x02 \x00\x00":                       fed(newTerm(t, 3, 2, 2), "\x1b[?1049h\x1b[?25l\x1b[31;41;1m\r\n\u4e2d\r"),
		"\x03\x02\x04\x01\x01\x00\x00\x01\x00\x00\x00\x01\x00\x00\x00\x00\x01c\x00\x05 \x00\x06 \x00\x01\x03\x01b\x00\x02 \x00":                             fed(newTerm(t, 3, 2, 1), "\x1b[?7la\r\nb\r\nc\r\n\x1b[Ac\x1b[2;2H"),
		"\x03\x02\x00\x00\x00\x00\x00\x01\x00\x00\x00\x00\x01\x00\x00\x00\x06 \x00\x06 \x00\x00":                                                            fed(newTerm(t, 3, 2, 0), "\x1b"),
		"\x03\x02\x10\x00\x00\x00\x00\x01\x00\x00\x00\x00\x02\x03\x07\x00\x8fN\x00\x00\x06 \x00\x06 \x00\x00":                                               fed(newTerm(t, 3, 2, 0), "\x1b[?7;;99999"),
		"\x03\x02\x00\x00\x00\x00\x00\x01\x00\x00\x00\x00\x03\x01\x05\x00\x00\x06 \x00\x06 \x00\x00":                                                        fed(newTerm(t, 3, 2, 0), "\x1b[5!"),
		"\x03\x02\x00\x00\x00\x00\x00\x01\x00\x00\x00\x00\x00\x00\x02\xe4\x01\xb8\x01\x00\x06 \x00\x06 \x00\x00":                                            fed(newTerm(t, 3, 2, 0), "\xe4\xb8"),
		"\x03\x03\x00\x02\x01\x00\x01\x02\x01\x01\x87\x05\x00\x00\x00\x00\x02\x00\x02\x09 \x00\x09 \x00\x00":                                                {S: savedScr(t)},
		"\x02\x01\x00\x00\x00\x00\x00\x00\x00\x00\x00\x03\x00\x00\x00\x00\x02 \x00\x02 \x00\x03\x01\x01a\x00\x05\x05b\x00\x78\x77c\x48\x01\xff\xff\x03\x00": {S: widthsScr(t)},
	}
	for want, m := range known {
		if got := wantRecovered(t, fmt.Sprintf("% .30x", want), m); got != want {
			t.Errorf("TermBytes of %s is\n % x; want\n % x", termText(m), got, want)
		}
	}
}

// savedScr has a region, changed tab stops, and a saved cursor with the greatest attribute.
func savedScr(t *testing.T) impl.Scr {
	s := newScr(t, 3, 3, 0)
	s.X, s.Y, s.Top, s.Bot, s.SaveX, s.SaveY, s.Tabs = 2, 1, 1, 2, 1, 1, []int{0, 2}
	s.SaveA = impl.Attr{Fg: 8, Bg: 8, Bold: true, Under: true, Turn: true}
	return s
}

// widthsScr has rows of one cell, of more than its width, and of MaxSide in its scrollback.
func widthsScr(t *testing.T) impl.Scr {
	s := newScr(t, 2, 1, 3)
	wide := append(cellsOf(119, impl.Cell{R: 'c', A: impl.Attr{Bg: 1}}), impl.Cell{R: 65535})
	s.Back = []impl.Row{{Cells: []impl.Cell{{R: 'a'}}}, {Cells: cellsOf(5, impl.Cell{R: 'b'})}, {Cells: wide}}
	return s
}

// codeTerms have encodings of a few hundred bytes at most: new ones, and every kind of value.
func codeTerms(t *testing.T) []impl.Term {
	l := []impl.Term{sampleTerm(), {P: plainVp("\xe4\xb8"), S: savedScr(t)}, {P: skipVp(true, slices.Repeat([]int{9999}, 8)...), S: widthsScr(t)}}
	for _, size := range [][3]int{{1, 1, 0}, {1, 1, 100}, {6, 2, 3}, {120, 33, 100}, {33, 120, 0}, {100, 40, 1}, {1, 120, 5}, {120, 1, 5}} {
		l = append(l, newTerm(t, size[0], size[1], size[2]))
	}
	for i, p := range validVps() {
		s := newScr(t, 3, 2, 2)
		if i%2 == 0 {
			s = sampleScr(2, 2, 2, 2)
		}
		l = append(l, impl.Term{P: p, S: s})
	}
	for _, c := range goodChanges() {
		if s := changedScr(baseScr(), c.change); len(s.Back) < 50 {
			l = append(l, impl.Term{S: s})
		}
	}
	for _, text := range termOutputs() {
		l = append(l, fed(newTerm(t, 6, 4, 3), text))
	}
	return l
}

func TestTerminalsAreRecovered(t *testing.T) {
	for i, m := range codeTerms(t) {
		wantRecovered(t, fmt.Sprint("the terminal ", i), m)
	}
	for _, p := range validVps() {
		for _, c := range goodChanges() {
			wantRecovered(t, c.what, impl.Term{P: p, S: changedScr(baseScr(), c.change)})
		}
	}
	for _, size := range append(smallSizes(), [2]int{120, 3}, [2]int{33, 12}, [2]int{120, 1}, [2]int{1, 120}) {
		for _, b := range append(backs(), [2]int{100, 0}, [2]int{100, 1}, [2]int{100, 60}) {
			for _, onAlt := range []bool{false, true} {
				s := sampleScr(size[0], size[1], b[0], b[1])
				s.OnAlt = onAlt
				wantRecovered(t, fmt.Sprint("a screen of ", size, b), impl.Term{P: plainVp("\xef\xbf"), S: s})
			}
		}
	}
}

// TestEverySumOfFlags also reads the sums that no valid terminal has.
func TestEverySumOfFlags(t *testing.T) {
	for _, p := range []impl.Vp{{}, plainVp("\xc3"), {State: impl.VpEsc}, csiVp(false), csiVp(false, 0, 7), skipVp(false, 1)} {
		for _, x := range []int{1, 4} {
			for n := range 32 {
				s := sampleScr(5, 2, 1, 1)
				s.X = x
				plain := modelTermBytes(impl.Term{P: p, S: changedScr(s, func(s *impl.Scr) { s.Hide = false })})
				s.OnAlt, s.Wrap, s.NoWrap, s.Hide = n&1 > 0, n&2 > 0, n&4 > 0, n&8 > 0
				m := impl.Term{P: p, S: s}
				m.P.Mark = n&16 > 0
				text := plain[:2] + varint(n) + plain[3:]
				valid := (!s.Wrap || x == 4) && (!m.P.Mark || p.State == impl.VpCsi || p.State == impl.VpSkip)
				if checkTermRead(t, "flags", text) != valid || valid && wantRecovered(t, "flags", m) != text {
					t.Errorf("the sum %d of flags in the column %d with %+v: want %v", n, x, p, valid)
				}
				for _, more := range []int{32, 64, 96, 128, 1 << 30, 1 << 31} {
					wantNoTermRead(t, fmt.Sprint("the flags ", n+more), plain[:2]+varint(n+more)+plain[3:])
				}
			}
			wantNoTermRead(t, "the greatest number as flags", modelTermBytes(impl.Term{P: p, S: newScr(t, 1, 1, 0)})[:2]+varint(impl.MaxNum)+modelTermBytes(impl.Term{P: p, S: newScr(t, 1, 1, 0)})[3:])
		}
	}
}

func TestTerminalsWithEveryAttribute(t *testing.T) {
	attrs := validAttrs()
	for i, a := range attrs {
		m := newTerm(t, 2, 1, 1)
		m.S.A, m.S.SaveA = a, attrs[(i*31+7)%648]
		m.S.Main.Cells[1].A, m.S.Alt.Cells[0].A = a, attrs[(i*5+1)%648]
		m.S.Back = []impl.Row{{Cells: []impl.Cell{{R: 'x', A: a}}}}
		text := wantRecovered(t, fmt.Sprint("the attribute ", i), m)
		numbers, _ := modelNumbers(text)
		if numbers[5] != i || numbers[10] != (i*31+7)%648 {
			t.Errorf("the attributes %d and %d have the numbers %d and %d", i, (i*31+7)%648, numbers[5], numbers[10])
		}
	}
	numbers, _ := modelNumbers(modelTermBytes(newTerm(t, 2, 1, 1)))
	for _, at := range []int{5, 10, 18} {
		for _, n := range []int{648, 649, 719, 720, 1000, 4096, 1 << 16, 1 << 31, impl.MaxNum} {
			changed := slices.Clone(numbers)
			changed[at] = n
			wantNoTermRead(t, fmt.Sprintf("the attribute %d at %d", n, at), varints(changed))
		}
	}
}

func TestTerminalsWithEveryRegionAndTabStop(t *testing.T) {
	for h := 1; h <= 5; h++ {
		for n := range 7 * 7 {
			m := newTerm(t, 2, h, 0)
			numbers, _ := modelNumbers(modelTermBytes(m))
			m.S.Top, m.S.Bot = n%7, n/7
			numbers[6], numbers[7] = m.S.Top, m.S.Bot
			if ok := checkTermRead(t, "regions", varints(numbers)); ok != modelScrOk(m.S) || ok && wantRecovered(t, "regions", m) != varints(numbers) {
				t.Errorf("the region of %d to %d on %d rows: TermRead returns %v", m.S.Top, m.S.Bot, h, ok)
			}
		}
	}
	m := newTerm(t, 120, 2, 0)
	for _, step := range []int{1, 2, 7, 119, 120} {
		for first := range 3 {
			m.S.Tabs = nil
			for x := first; x < 120; x += step {
				m.S.Tabs = append(m.S.Tabs, x)
			}
			wantRecovered(t, fmt.Sprintf("tab stops from %d on every %d", first, step), m)
		}
	}
	text := modelTermBytes(newTerm(t, 5, 1, 0))
	for _, tabs := range append([][]int{{0}, {4}, {0, 4}, {0, 1, 2, 3, 4}}, []int{5}, []int{4, 4}, []int{3, 2}, []int{0, 0}, []int{0, 1, 2, 3, 4, 5}, []int{128}, []int{1 << 31}) {
		m := newTerm(t, 5, 1, 0)
		m.S.Tabs = tabs
		if checkTermRead(t, "tab stops", text[:15]+varint(len(tabs))+varints(tabs)+text[16:]) != modelScrOk(m.S) {
			t.Errorf("the tab stops %d are read, or are not", tabs)
		}
	}
}

// filledTerm has an encoding of n bytes: all cells of Main are of six bytes, and some of Alt of three or four.
func filledTerm(t *testing.T, n int) impl.Term {
	m := newTerm(t, 100, 40, 0)
	fill := func(cells []impl.Cell, size int) {
		for i := range cells {
			cells[i] = map[int]impl.Cell{3: {R: 'a' + i%2}, 4: {R: 200 + i%2}, 5: {R: 200 + i%2, A: impl.Attr{Bg: 8}}, 6: {R: 60000 + i%2, A: impl.Attr{Bg: 8}}}[size]
		}
	}
	fill(m.S.Main.Cells, 6)
	fill(m.S.Alt.Cells, 4)
	more := n - len(modelTermBytes(m))
	switch {
	case more < 0:
		fill(m.S.Alt.Cells[:-more], 3)
	case more <= 2*4000:
		fill(m.S.Alt.Cells[:more/2], 6)
		fill(m.S.Alt.Cells[more/2:more/2+more%2], 5)
	}
	if len(modelTermBytes(m)) != n || !modelTermOk(m) {
		t.Fatalf("the encoding has %d bytes; want %d", len(modelTermBytes(m)), n)
	}
	return m
}

func TestEncodingsOfMaxTermBytes(t *testing.T) {
	for _, n := range []int{36100, 39000, 39998, 39999, 40000} {
		text := wantRecovered(t, fmt.Sprint(n, " bytes"), filledTerm(t, n))
		if len(text) != n {
			t.Errorf("%d bytes instead of %d", len(text), n)
		}
		wantNoTermRead(t, "a byte fewer", text[:n-1])
		wantNoTermRead(t, "a byte more", text+"\x00")
	}
	for _, n := range []int{40001, 40002, 41000, 48029} {
		m := filledTerm(t, n)
		if b, ok := impl.TermBytes(m); ok || len(b) != 0 {
			t.Errorf("TermBytes of a terminal that would need %d bytes returns %d bytes and %v", n, len(b), ok)
		}
		wantNoTermRead(t, fmt.Sprint(n, " bytes"), modelTermBytes(m))
		wantNoTermRead(t, "its first MaxTerm bytes", modelTermBytes(m)[:40000])
		if !impl.TermOk(m) {
			t.Error("TermOk is false for a terminal of too many bytes")
		}
		wantTerm(t, "a terminal of too many bytes", fed(m, "x"), modelFed(m, "x"))
	}
	// The scrollback alone can be too large, and a single row can be what is too much.
	m := newTerm(t, 2, 1, 100)
	row := impl.Row{Cells: gridBy(120, 1, func(x, y int) impl.Cell { return impl.Cell{R: 60000 + x, A: impl.Attr{Bg: 8}} }).Cells}
	for n := range 101 {
		b, ok := impl.TermBytes(m)
		want := modelTermBytes(m)
		if fits := len(want) <= 40000; ok != fits || fits && string(b) != want || !fits && len(b) != 0 {
			t.Errorf("%d rows: TermBytes returns %d bytes and %v; want %d", n, len(b), ok, len(want))
		}
		if ok {
			wantRecovered(t, fmt.Sprint(n, " rows"), m)
		}
		m.S.Back = append(m.S.Back, row)
	}
}

func TestTornEncodingsOfTerminals(t *testing.T) {
	wantNoTermRead(t, "no bytes", "")
	if m, ok := impl.TermRead(nil); ok || !equalTerms(m, impl.Term{}) {
		t.Error("TermRead of nil returns a terminal")
	}
	for i, m := range codeTerms(t) {
		text := modelTermBytes(m)
		what := fmt.Sprint("the terminal ", i)
		for cut := range text {
			wantNoTermRead(t, fmt.Sprintf("%d of %d bytes of %s", cut, len(text), what), text[:cut])
		}
		wantNoTermRead(t, "without the first byte of "+what, text[1:])
		for _, behind := range []string{"\x00", "\x01", "\x80", "\xff", "\x01 \x00", "\x00\x00", text} {
			wantNoTermRead(t, fmt.Sprintf("% x behind %s", behind, what), text+behind)
			wantNoTermRead(t, fmt.Sprintf("% x in front of %s", behind, what), behind+text)
		}
	}
}

// TestEncodingsOfTerminalsWithAChangedByte: every byte of some encodings becomes every other byte, and of others a few other ones.
func TestEncodingsOfTerminalsWithAChangedByte(t *testing.T) {
	found := 0
	change := func(what string, text string, at int, c byte) {
		if c == text[at] {
			return
		}
		if checkTermRead(t, what, text[:at]+string([]byte{c})+text[at+1:]) {
			found++
		}
	}
	all := []impl.Term{newTerm(t, 3, 2, 1), {P: csiVp(true, 4, 300), S: savedScr(t)}, {P: plainVp("\xe4\xb8"), S: widthsScr(t)}, fed(newTerm(t, 4, 2, 2), "ab\r\n\x1b[1;31mc\n\n\x1b[?1049hxx\x1b[?1049l"), {P: skipVp(false, 1), S: sampleScr(2, 2, 2, 2)}}
	for i, m := range all {
		text := modelTermBytes(m)
		for at := range text {
			for c := range 256 {
				change(fmt.Sprintf("the byte %d of %d", at, i), text, at, byte(c))
			}
		}
	}
	for i, m := range codeTerms(t) {
		text := modelTermBytes(m)
		for at := range text {
			for _, c := range []byte{0, 1, 2, text[at] + 1, text[at] - 1, text[at] ^ 128, 255} {
				change(fmt.Sprintf("the byte %d of the terminal %d", at, i), text, at, c)
			}
		}
		if t.Failed() {
			t.FailNow()
		}
	}
	if found < 100 {
		t.Errorf("only %d changed encodings are those of other terminals", found)
	}
}

// TestEncodingsOfTerminalsWithAChangedNumber: each number becomes others, among them counts that are greater than what follows, and too great for anything.
func TestEncodingsOfTerminalsWithAChangedNumber(t *testing.T) {
	for i, m := range codeTerms(t) {
		numbers, ok := modelNumbers(modelTermBytes(m))
		if !ok || len(numbers) > 300 {
			continue
		}
		for at, n := range numbers {
			for k, other := range []int{0, n + 1, n - 1, impl.MaxNum, 1, 2, 8, 9, 31, 32, 100, 101, 120, 121, 127, 128, 255, 256, 647, 648, 4000, 4001, 9999, 10000, 65535, 65536, 1 << 31, 2 * n, n + 256, n + 1<<16} {
				if other == n || other < 0 || i > 10 && k > 3 && (i+at+k)%5 > 0 {
					continue
				}
				changed := slices.Clone(numbers)
				changed[at] = other
				checkTermRead(t, fmt.Sprintf("the number %d of the terminal %d as %d", at, i, other), varints(changed))
			}
			checkTermRead(t, fmt.Sprintf("without the number %d of the terminal %d", at, i), varints(slices.Delete(slices.Clone(numbers), at, at+1)))
		}
		if t.Failed() {
			t.FailNow()
		}
	}
}

// TestNumbersThatAreNotTheShortest: each number of an encoding in one of the ways that PutVar never writes.
func TestNumbersThatAreNotTheShortest(t *testing.T) {
	for i, m := range codeTerms(t) {
		numbers, _ := modelNumbers(modelTermBytes(m))
		if len(numbers) > 200 {
			continue
		}
		for at, n := range numbers {
			before, behind := varints(numbers[:at]), varints(numbers[at+1:])
			short := varint(n)
			last := len(short) - 1
			longer := short[:last] + string([]byte{short[last] | 128})
			for _, other := range append(badVars(), longer+"\x00", longer+"\x80\x00", longer+"\x80\x80\x80\x80\x80\x80\x80\x80\x00", longer) {
				if before+other+behind == modelTermBytes(m) {
					continue
				}
				checkTermRead(t, fmt.Sprintf("the number %d of the terminal %d as % x", at, i, other), before+other+behind)
			}
			wantNoTermRead(t, fmt.Sprintf("the number %d of the terminal %d with a zero byte", at, i), before+longer+"\x00"+behind)
		}
		if t.Failed() {
			t.FailNow()
		}
	}
}

// partsText is an encoding by its parts: the numbers, three lists, and what follows them.
func partsText(head []int, args []int, part []int, tabs []int, rest string) string {
	list := func(l []int) string { return varint(len(l)) + varints(l) }
	return varints(head) + list(args) + list(part) + list(tabs) + rest
}

func TestTermReadOfInvalidValues(t *testing.T) {
	head := []int{3, 2, 0, 0, 0, 0, 0, 1, 0, 0, 0, 2, 0}
	blank := "\x06 \x00\x06 \x00\x00"
	if !checkTermRead(t, "the encoding that is changed", partsText(head, nil, nil, nil, blank)) {
		t.Fatal("the encoding that is changed is none")
	}
	state := func(n int, flags int) []int {
		l := slices.Clone(head)
		l[12], l[2] = n, flags
		return l
	}
	for what, text := range map[string]string{
		"the state 4":                  partsText(state(4, 0), nil, nil, nil, blank),
		"the state MaxNum":             partsText(state(impl.MaxNum, 0), nil, nil, nil, blank),
		"a mark in VpPlain":            partsText(state(0, 16), nil, nil, nil, blank),
		"a mark in VpEsc":              partsText(state(1, 16), nil, nil, nil, blank),
		"arguments in VpPlain":         partsText(head, []int{1}, nil, nil, blank),
		"arguments in VpEsc":           partsText(state(1, 0), []int{1}, nil, nil, blank),
		"nine arguments":               partsText(state(2, 0), make([]int, 9), nil, nil, blank),
		"many arguments":               partsText(state(2, 0), make([]int, 5000), nil, nil, blank),
		"the argument 10000":           partsText(state(2, 0), []int{10000}, nil, nil, blank),
		"the second argument MaxNum":   partsText(state(3, 16), []int{0, impl.MaxNum}, nil, nil, blank),
		"a partial rune in VpEsc":      partsText(state(1, 0), nil, []int{0xe4}, nil, blank),
		"a partial rune in VpCsi":      partsText(state(2, 0), nil, []int{0xe4}, nil, blank),
		"a partial rune in VpSkip":     partsText(state(3, 0), nil, []int{0xe4}, nil, blank),
		"a whole rune":                 partsText(head, nil, []int{'a'}, nil, blank),
		"a whole rune of three bytes":  partsText(head, nil, []int{0xe4, 0xb8, 0xad}, nil, blank),
		"a rune that none begins with": partsText(head, nil, []int{0xff}, nil, blank),
		"a surrogate":                  partsText(head, nil, []int{0xed, 0xa0}, nil, blank),
		"a partial byte of more bits":  partsText(head, nil, []int{256 + 0xe4}, nil, blank),
		"another one":                  partsText(head, nil, []int{0xe4, 1<<31 + 0xb8}, nil, blank),
		"many partial bytes":           partsText(head, nil, slices.Repeat([]int{0xe4}, 5000), nil, blank),
		"a tab stop behind the screen": partsText(head, nil, nil, []int{3}, blank),
		"tab stops twice":              partsText(head, nil, nil, []int{1, 1}, blank),
		"tab stops descending":         partsText(head, nil, nil, []int{2, 1}, blank),
		"many tab stops":               partsText(head, nil, nil, make([]int, 5000), blank),
		"no cells":                     partsText(head, nil, nil, nil, ""),
		"a cell too few in Main":       partsText(head, nil, nil, nil, "\x05 \x00\x06 \x00\x00"),
		"a cell too many in Main":      partsText(head, nil, nil, nil, "\x07 \x00\x06 \x00\x00"),
		"a cell too few in Alt":        partsText(head, nil, nil, nil, "\x06 \x00\x05 \x00\x00"),
		"a cell too many in Alt":       partsText(head, nil, nil, nil, "\x06 \x00\x07 \x00\x00"),
		"both grids in one run":        partsText(head, nil, nil, nil, "\x0c \x00\x00"),
		"no Alt":                       partsText(head, nil, nil, nil, "\x06 \x00\x00"),
		"no number of rows":            partsText(head, nil, nil, nil, "\x06 \x00\x06 \x00"),
		"Main in two runs":             partsText(head, nil, nil, nil, "\x03 \x00\x03 \x00\x06 \x00\x00"),
		"Alt in two runs":              partsText(head, nil, nil, nil, "\x06 \x00\x01 \x00\x05 \x00\x00"),
		"a run of no cells":            partsText(head, nil, nil, nil, "\x06 \x00\x00x\x00\x06 \x00\x00"),
		"a row in two runs":            partsText(head, nil, nil, nil, "\x06 \x00\x06 \x00\x01\x03\x01x\x00\x02x\x00"),
		"a rune that is not printable": partsText(head, nil, nil, nil, "\x06\x1f\x00\x06 \x00\x00"),
		"an attribute in Alt":          partsText(head, nil, nil, nil, "\x06 \x00\x06 \x88\x05\x00"),
		"a row of no cells":            partsText(head, nil, nil, nil, "\x06 \x00\x06 \x00\x01\x00"),
		"a row of 121 cells":           partsText(head, nil, nil, nil, "\x06 \x00\x06 \x00\x01\x79\x79x\x00"),
		"a row of 4000 cells":          partsText(head, nil, nil, nil, "\x06 \x00\x06 \x00\x01\xa0\x1f\xa0\x1fx\x00"),
		"more rows than follow":        partsText(head, nil, nil, nil, "\x06 \x00\x06 \x00\x02\x01x\x00"),
		"fewer rows than follow":       partsText(head, nil, nil, nil, "\x06 \x00\x06 \x00\x01\x01\x01x\x00\x01\x01x\x00"),
		"more cells than follow":       partsText(head, nil, nil, nil, "\x06 \x00\x06 \x00\x01\x03\x02x\x00"),
		"fewer cells than follow":      partsText(head, nil, nil, nil, "\x06 \x00\x06 \x00\x01\x01\x02x\x00"),
		"more rows than the limit":     partsText(head, nil, nil, nil, "\x06 \x00\x06 \x00\x03"+strings.Repeat("\x01\x01x\x00", 3)),
		"more rows than any limit":     partsText(head, nil, nil, nil, "\x06 \x00\x06 \x00\x65"+strings.Repeat("\x01\x01x\x00", 101)),
		"many rows":                    partsText(head, nil, nil, nil, "\x06 \x00\x06 \x00"+varint(6000)+strings.Repeat("\xa0\x1f\xa0\x1fx\x00", 6000)),
		"MaxNum arguments":             varints(head) + varint(impl.MaxNum) + strings.Repeat("\x00", 500),
		"MaxNum partial bytes":         varints(head) + "\x00" + varint(impl.MaxNum) + strings.Repeat("\x00", 500),
		"MaxNum tab stops":             varints(head) + "\x00\x00" + varint(impl.MaxNum) + strings.Repeat("\x00", 500),
		"MaxNum rows":                  partsText(head, nil, nil, nil, "\x06 \x00\x06 \x00"+varint(impl.MaxNum)+strings.Repeat("\x01\x01x\x00", 500)),
		"MaxNum cells":                 partsText(head, nil, nil, nil, "\x06 \x00\x06 \x00\x01"+varint(impl.MaxNum)+varint(impl.MaxNum)+"x\x00"),
	} {
		wantNoTermRead(t, what, text)
		if checkTermRead(t, what, text) {
			t.Errorf("%s: the model accepts it", what)
		}
	}
}

// TestTermReadOfOtherSizes: also sizes whose product is as small as what follows only if it wraps around.
func TestTermReadOfOtherSizes(t *testing.T) {
	sides := []int{0, 1, 2, 3, 6, 12, 120, 121, 4000, 4001, 65536, 1 << 31, 1<<32 - 2, 1<<32 - 1}
	for _, w := range sides {
		for _, h := range sides {
			for _, text := range []string{"\x06 \x00\x06 \x00\x00", "\x00", "", "\xa0\x1f \x00\xa0\x1f \x00\x00", "\x01 \x00\x01 \x00\x00", "\x02 \x00\x02 \x00\x00"} {
				head := []int{w, h, 0, 0, 0, 0, 0, max(0, h-1), 0, 0, 0, 2, 0}
				what := fmt.Sprintf("the size %d, %d with % x", w, h, text)
				size, _, _ := impl.GetVar([]byte(text+"\x00"), 0)
				if checkTermRead(t, what, partsText(head, nil, nil, nil, text)) != (w <= 120 && h <= 120 && w*h > 0 && w*h == size && text != "") {
					t.Errorf("%s is read, or is not", what)
				}
			}
		}
	}
}

// TestRandomEncodingsOfTerminals also reads what random changes make of them.
func TestRandomEncodingsOfTerminals(t *testing.T) {
	r := rand.New(rand.NewSource(21))
	for range 1500 {
		m := fed(randomTerm(r), randomOutputs(r))
		if r.Intn(3) == 0 {
			m = checkTermSized(t, m, 1+r.Intn(12), 1+r.Intn(8))
		}
		text := wantRecovered(t, "a random terminal", m)
		for range 15 {
			broken := []byte(text)
			for range 1 + r.Intn(3) {
				at := r.Intn(len(broken) + 1)
				broken = slices.Concat(broken[:at], []byte{byte([]int{0, 1, 2, 32, 128, r.Intn(256)}[r.Intn(6)])}, broken[min(len(broken), at+r.Intn(3)):])
			}
			checkTermRead(t, "a random change", string(broken))
		}
		noise := make([]byte, r.Intn(60))
		for i := range noise {
			noise[i] = byte(r.Intn(1 + r.Intn(256)))
		}
		checkTermRead(t, "random bytes", string(noise))
	}
}

// TestOutputGoesOnAfterTheEncoding: a terminal that is recovered in the middle of an output is the same at its end.
func TestOutputGoesOnAfterTheEncoding(t *testing.T) {
	m := newTerm(t, 6, 4, 3)
	for _, text := range termOutputs() {
		want := fed(m, text)
		for i := range len(text) + 1 {
			b, _ := impl.TermBytes(fed(m, text[:i]))
			read, ok := impl.TermRead(b)
			if !ok {
				t.Fatalf("%q is not recovered", text[:i])
			}
			wantTerm(t, fmt.Sprintf("%q recovered at %d", text, i), fed(read, text[i:]), want)
		}
	}
}

// spareTerm returns a copy of the terminal with spare capacity behind every slice.
func spareTerm(m impl.Term) impl.Term {
	p, _, _ := spareVp(m.P)
	return impl.Term{P: p, S: spareScr(m.S)}
}

// wholeTerm returns a copy of the terminal with what is in the spare capacity of its slices.
func wholeTerm(m impl.Term) impl.Term {
	m.P.Args, m.P.Part = m.P.Args[:cap(m.P.Args)], m.P.Part[:cap(m.P.Part)]
	return impl.Term{P: deepVp(m.P), S: wholeScr(m.S)}
}

// termMemory returns a function for every slice of the terminal that overwrites it with its spare capacity.
func termMemory(m *impl.Term) []func() {
	return append(memoryOf(&m.S), func() { overwriteInts(m.P.Args) }, func() { overwrite(m.P.Part) })
}

func overwriteTerm(m impl.Term) {
	for _, f := range termMemory(&m) {
		f()
	}
}

// termResults calls every function that is given a terminal, or the encoding of one, with and without an effect.
func termResults(m impl.Term, out []byte, code []byte) []impl.Term {
	l := []impl.Term{impl.TermFeed(m, out), impl.TermFeed(m, out[:0]), impl.TermFeed(m, []byte("\x1bc"))}
	for _, size := range [][2]int{{5, 4}, {2, 1}, {17, 9}, {0, 1}} {
		sized, _ := impl.TermSize(m, size[0], size[1])
		l = append(l, sized)
	}
	impl.TermOk(m)
	b, _ := impl.TermBytes(m)
	read, _ := impl.TermRead(code)
	_, no := impl.TermRead(code[:len(code)/2])
	return append(l, read, impl.Term{P: impl.Vp{State: map[bool]int{false: 5, true: 6}[no], Part: b}})
}

func sharingTerms(t *testing.T) []impl.Term {
	l := []impl.Term{sampleTerm(), {P: plainVp("\xe4\xb8"), S: savedScr(t)}, {P: skipVp(true, 1, 2, 3), S: widthsScr(t)}, {P: csiVp(false, 9, 9), S: sampleScr(5, 4, 4, 4)}, {P: impl.Vp{State: impl.VpEsc}, S: sampleScr(3, 2, 100, 100)}}
	for i, m := range invalidTerms() {
		if i%60 == 0 {
			l = append(l, m)
		}
	}
	return l
}

func TestTermFunctionsLeaveTheirArgumentsAlone(t *testing.T) {
	for i, m := range sharingTerms(t) {
		for _, text := range []string{"", "1;2", "\xad\r\nabc\n\n\n" + csi + "?1049hx" + csi + "5;6", "\n" + csi + "1m\xe4"} {
			m := spareTerm(m)
			out, allOut := withSpare(text)
			code, allCode := withSpare(modelTermBytes(sampleTerm()))
			before, outBefore, codeBefore := wholeTerm(m), string(allOut), string(allCode)
			unchanged := func(when string) {
				t.Helper()
				if !equalTerms(wholeTerm(m), before) || string(allOut) != outBefore || string(allCode) != codeBefore {
					t.Errorf("%s: an argument, or the spare capacity behind it, is changed: the terminal %d with %q", when, i, text)
				}
			}
			returned := termResults(m, out, code)
			unchanged("after the calls")
			again := termResults(m, out, code)
			for _, r := range returned {
				overwriteTerm(r)
			}
			unchanged("after the results were overwritten")
			third := termResults(m, out, code)
			overwriteTerm(m)
			overwrite(allOut)
			overwrite(allCode)
			for k := range third {
				wantTerm(t, fmt.Sprintf("the result %d for the terminal %d after others were overwritten", k, i), third[k], again[k])
			}
		}
	}
}

// TestSlicesOfOneTerminalShareNothing overwrites each slice of a result and looks at what the others have then.
func TestSlicesOfOneTerminalShareNothing(t *testing.T) {
	for i, m := range append(sharingTerms(t), newTerm(t, 20, 3, 5)) {
		if len(m.S.Back) > 10 {
			continue
		}
		m = spareTerm(m)
		results := func() []impl.Term {
			fresh, _ := impl.TermNew(17, 2, 3)
			return append(termResults(m, []byte("1;2"), []byte(modelTermBytes(sampleTerm()))), fresh)
		}
		for k, want := range results() {
			for at := range termMemory(&want) {
				got, expected := results()[k], deepTerm(want)
				termMemory(&got)[at]()
				termMemory(&expected)[at]()
				wantTerm(t, fmt.Sprintf("the result %d for the terminal %d with the slice %d overwritten", k, i, at), got, expected)
			}
		}
	}
}

// TestTerminalsOfOneArray: the grids and rows of an argument may lie in the same memory, even be the same.
func TestTerminalsOfOneArray(t *testing.T) {
	all := numberedGrid(4, 6).Cells
	ints := []int{1, 2, 3, 77, 77, 77}
	before, intsBefore := slices.Clone(all), slices.Clone(ints)
	s := impl.Scr{W: 4, H: 3, Y: 2, Bot: 2, Limit: 5, Tabs: ints[:2], Main: impl.Grid{W: 4, H: 3, Cells: all[:12]}, Alt: impl.Grid{W: 4, H: 3, Cells: all[4:16]}}
	s.Back = []impl.Row{{Cells: all[:4]}, {Cells: all[2:9]}, {Cells: all[:4]}}
	m := impl.Term{P: csiVp(false, ints[:3]...), S: s}
	m.P.Args = ints[:3]
	wantRecovered(t, "one array", m)
	for _, text := range []string{";5", "m\x1bH\x1b[3gab\n\n", "P\x1b[?1049hx"} {
		got := checkFed(t, m, text)
		overwriteTerm(got)
	}
	overwriteTerm(checkTermSized(t, m, 3, 2))
	if !slices.Equal(all, before) || !slices.Equal(ints, intsBefore) {
		t.Error("the array is changed")
	}
}

// TestLongOutput: a process may write very much at once.
func TestLongOutput(t *testing.T) {
	m := newTerm(t, 80, 24, 100)
	text := strings.Repeat(csi+"1;3"+"1mline of text \u4e2d"+csi+"0K\r\n", 8000)
	whole := fed(m, text)
	wantTerm(t, "a long output in pieces", fed(m, chunks(text, 1999)...), whole)
	if len(whole.S.Back) != 100 || whole.S.Y != 23 || rowText(whole.S.Back[0])[:12] != "line of text" {
		t.Errorf("after a long output: %s", scrText(whole.S))
	}
	wantRecovered(t, "after a long output", whole)
}
