package tests

import (
	"encoding/binary"
	"fmt"
	"math/rand"
	"slices"
	"strings"
	"testing"

	"loop.example/g00661/impl"
)

// A token is one number of an encoded state, or the bytes of one string or terminal.
type token struct {
	what   string
	number int
	text   string
	isText bool
}

type tokens []token

func (l *tokens) number(what string, n int) {
	*l = append(*l, token{what: what, number: n, text: varint(n)})
}

func (l *tokens) flag(what string, set bool) {
	l.number(what, map[bool]int{false: 0, true: 1}[set])
}

func (l *tokens) sized(what string, text string) {
	l.number("the length of "+what, len(text))
	*l = append(*l, token{what: what, text: text, isText: true})
}

func (l tokens) join() string {
	var b strings.Builder
	for _, x := range l {
		b.WriteString(x.text)
	}
	return b.String()
}

// with returns what is encoded when one token is written in another way.
func (l tokens) with(at int, text string) string {
	return l[:at].join() + text + l[at+1:].join()
}

// stateTokens is for states whose numbers are numbers and whose terminals are valid, also if the rest is not.
func stateTokens(s impl.State) tokens {
	var l tokens
	l.number("W", s.W)
	l.number("H", s.H)
	l.number("Limit", s.Limit)
	l.number("Next", s.Next)
	l.number("panes", len(s.Panes))
	for _, p := range s.Panes {
		l.number("Id of a pane", p.Id)
		l.sized("Cmd", p.Cmd)
		l.sized("Dir", p.Dir)
		l.number("Life", p.Life)
		l.number("Code", p.Code)
		l.number("Pid", p.Pid)
		l.sized("terminal", modelTermBytes(p.Term))
	}
	l.number("windows", len(s.Wins))
	for _, w := range s.Wins {
		l.number("Id of a window", w.Id)
		l.sized("name of a window", w.Name)
		l.number("nodes", len(w.Tree))
		for _, n := range w.Tree {
			l.number("Pane", n.Pane)
			l.number("First", n.First)
			l.flag("Down", n.Down)
		}
		l.number("Active pane", w.Active)
		l.flag("Zoom", w.Zoom)
	}
	l.number("sessions", len(s.Sess))
	for _, x := range s.Sess {
		l.sized("name of a session", x.Name)
		l.number("Wins", len(x.Wins))
		for _, id := range x.Wins {
			l.number("window of a session", id)
		}
		l.number("Active window", x.Active)
	}
	return l
}

func modelStateBytes(s impl.State) string { return stateTokens(s).join() }

// hasTokens reports whether every number and every terminal of a state can be encoded.
func hasTokens(s impl.State) bool {
	if count(s.Panes, func(p impl.Pane) bool { return !modelTermOk(p.Term) }) > 0 {
		return false
	}
	return count(stateTokens(s), func(x token) bool { return x.number < 0 || x.number > impl.MaxNum }) == 0
}

// textReader takes one number or string after the other, or remembers that it could not.
type textReader struct {
	rest string
	bad  bool
}

func (r *textReader) number() int {
	n, size := binary.Uvarint([]byte(r.rest[:min(len(r.rest), 10)]))
	r.bad = r.bad || size <= 0 || n > impl.MaxNum
	if r.bad || varint(int(n)) != r.rest[:size] {
		r.bad = true
		return 0
	}
	r.rest = r.rest[size:]
	return int(n)
}

func (r *textReader) flag() bool {
	n := r.number()
	r.bad = r.bad || n > 1
	return n == 1
}

func (r *textReader) sized() string {
	n := r.number()
	if r.bad || n > len(r.rest) {
		r.bad = true
		return ""
	}
	text := r.rest[:n]
	r.rest = r.rest[n:]
	return text
}

func (r *textReader) each(one func()) {
	for n := r.number(); n > 0 && !r.bad; n-- {
		one()
	}
}

func (r *textReader) pane() impl.Pane {
	p := impl.Pane{Id: r.number()}
	p.Cmd, p.Dir = r.sized(), r.sized()
	p.Life, p.Code, p.Pid = r.number(), r.number(), r.number()
	m, ok := modelTermRead(r.sized())
	r.bad = r.bad || !ok
	p.Term = m
	return p
}

func (r *textReader) win() impl.Win {
	w := impl.Win{Id: r.number(), Name: r.sized()}
	r.each(func() {
		pane, first := r.number(), r.number()
		w.Tree = append(w.Tree, impl.Node{Pane: pane, First: first, Down: r.flag()})
	})
	w.Active, w.Zoom = r.number(), r.flag()
	return w
}

func (r *textReader) sess() impl.Sess {
	x := impl.Sess{Name: r.sized()}
	r.each(func() { x.Wins = append(x.Wins, r.number()) })
	x.Active = r.number()
	return x
}

// modelStateRead refuses the first thing that StateBytes never writes, and then what is no valid state.
func modelStateRead(text string) (impl.State, bool) {
	r := &textReader{rest: text}
	s := impl.State{W: r.number(), H: r.number(), Limit: r.number(), Next: r.number()}
	r.each(func() { s.Panes = append(s.Panes, r.pane()) })
	r.each(func() { s.Wins = append(s.Wins, r.win()) })
	r.each(func() { s.Sess = append(s.Sess, r.sess()) })
	if r.bad || r.rest != "" || len(text) > 150000 || !modelStateOk(s) {
		return impl.State{}, false
	}
	return s, true
}

// checkStateRead compares one call with its model, and tells whether there is a state.
func checkStateRead(t *testing.T, what string, text string) bool {
	t.Helper()
	got, ok := impl.StateRead([]byte(text))
	want, wantOk := modelStateRead(text)
	if ok != wantOk || !equalStates(got, want) {
		t.Errorf("%s: StateRead of % .60x returns %v; want %v", what, text, ok, wantOk)
		wantState(t, what, got, want)
	}
	return ok
}

func wantNoStateRead(t *testing.T, what string, text string) {
	t.Helper()
	if s, ok := impl.StateRead([]byte(text)); ok || !equalStates(s, impl.State{}) {
		t.Errorf("%s: StateRead of %d bytes returns %v and %s; want zero values", what, len(text), ok, stateText(s))
	}
}

func wantNoStateBytes(t *testing.T, what string, s impl.State) {
	t.Helper()
	if b, ok := impl.StateBytes(s); ok || len(b) != 0 {
		t.Errorf("%s: StateBytes returns %d bytes and %v; want none and false", what, len(b), ok)
	}
}

// wantStateRecovered is the part of P5 about states. It returns the encoding.
func wantStateRecovered(t *testing.T, what string, s impl.State) string {
	t.Helper()
	b, ok := impl.StateBytes(s)
	if want := modelStateBytes(s); !ok || string(b) != want {
		t.Fatalf("%s: StateBytes returns % .80x and %v; want % .80x and true", what, b, ok, want)
	}
	got, ok := impl.StateRead(b)
	if !ok || !equalStates(got, s) || !impl.StateOk(got) {
		wantState(t, what, got, s)
		t.Fatalf("%s: StateRead returns %v, and the result is valid: %v", what, ok, impl.StateOk(got))
	}
	if model, ok := modelStateRead(string(b)); !ok || !equalStates(model, s) {
		t.Fatalf("%s: the model of StateRead returns %v and %s", what, ok, stateText(model))
	}
	return string(b)
}

// onePaneState has a single pane in the least of all areas.
func onePaneState(t *testing.T, p impl.Pane) impl.State {
	p.Id, p.Term = 2, newTerm(t, 1, 1, 0)
	return impl.State{
		W: 1, H: 1, Next: 3, Panes: []impl.Pane{p},
		Wins: []impl.Win{{Id: 1, Name: "sh", Tree: lone(2), Active: 2}},
		Sess: []impl.Sess{{Name: "main", Wins: []int{1}, Active: 1}},
	}
}

// leastTerm is the encoding of a new terminal of one cell, behind its length.
const leastTerm = "\x17\x01\x01\x00\x00\x00\x00\x00\x00\x00\x00\x00\x00\x00\x00\x00\x00\x01 \x00\x01 \x00\x00"

func TestStateBytesKnown(t *testing.T) {
	const behind = "\x01\x01\x02sh\x01\x02\x00\x00\x02\x00\x01\x04main\x01\x01\x01"
	zoomed := onePaneState(t, impl.Pane{Cmd: "a", Dir: "/b", Life: impl.PaLive, Pid: 300})
	zoomed.Wins[0].Zoom, zoomed.Next, zoomed.Sess[0].Name = true, 1000000, "0123456789az"
	known := map[string]impl.State{
		"\x09\x04\x02\x01\x00\x00\x00":                                        {W: 9, H: 4, Limit: 2, Next: 1},
		"\x78\x21\x64\xc0\x84\x3d\x00\x00\x00":                                {W: 120, H: 33, Limit: 100, Next: 1000000},
		"\x01\x01\x00\x80\x01\x00\x00\x00":                                    {W: 1, H: 1, Next: 128, Panes: []impl.Pane{}, Wins: []impl.Win{}, Sess: []impl.Sess{}},
		"\x01\x01\x00\x03\x01\x02\x02sh\x00\x02\x05\x00" + leastTerm + behind: onePaneState(t, impl.Pane{Cmd: "sh", Life: impl.PaDone, Code: 5}),
		"\x01\x01\x00\x03\x01\x02\x00\x01/\x03\x00\x00" + leastTerm + behind:  onePaneState(t, impl.Pane{Dir: "/", Life: impl.PaWait}),
		"\x01\x01\x00\xc0\x84\x3d\x01\x02\x01a\x02/b\x01\x00\xac\x02" + leastTerm + "\x01\x01\x02sh\x01\x02\x00\x00\x02\x01\x01\x0c0123456789az\x01\x01\x01": zoomed,
	}
	for want, s := range known {
		if got := wantStateRecovered(t, fmt.Sprintf("% .30x", want), s); got != want {
			t.Errorf("StateBytes of %s is\n % x; want\n % x", stateText(s), got, want)
		}
	}
	const windows = "\x04" +
		"\x01\x02sh\x07\x00\x04\x00\x02\x00\x00\x00\x03\x00\x00\x02\x01\x03\x00\x00\x05\x00\x00\x08\x00\x00\x05\x00" +
		"\x04\x06editor\x03\x00\x06\x00\x07\x00\x00\x06\x00\x00\x06\x01" +
		"\x09\x02sh\x01\x0a\x00\x00\x0a\x00" +
		"\x0b\x04logs\x03\x00\x03\x01\x0d\x00\x00\x0c\x00\x00\x0c\x00"
	const sessions = "\x03\x04main\x02\x09\x01\x01\x02b2\x01\x04\x04\x04work\x01\x0b\x0b"
	text := wantStateRecovered(t, "the sample", sampleState())
	if !strings.HasPrefix(text, "\x0e\x07\x03\x14\x09\x02\x05run 2\x02/2\x03\x00\x00") || !strings.HasSuffix(text, windows+sessions) {
		t.Errorf("StateBytes of the sample is % x", text)
	}
}

// codeStates have each kind of value in them, and no more than a few panes.
func codeStates() []impl.State {
	var l []impl.State
	for _, c := range goodStateChanges() {
		l = append(l, changedState(sampleState(), c.change))
	}
	ones := slices.Repeat([]int{1}, 12)
	return append(l,
		countedState([]int{16, 8}, []int{2}), countedState([]int{8, 8, 8}, []int{1, 2}), countedState(ones, []int{12}), countedState(ones[:8], ones[:8]),
		countedState(slices.Repeat([]int{2}, 12), []int{1, 2, 1, 2, 1, 2, 1, 2}), countedState([]int{1}, []int{1}),
	)
}

func TestStatesAreRecovered(t *testing.T) {
	for i, s := range codeStates() {
		wantStateRecovered(t, fmt.Sprint("the state ", i), s)
	}
	for _, size := range [][2]int{{1, 1}, {120, 1}, {1, 120}, {120, 33}, {33, 120}, {40, 100}, {100, 40}, {80, 24}} {
		for _, limit := range []int{0, 1, 99, 100} {
			for _, next := range []int{1, 2, 127, 128, 16383, 16384, 999999, 1000000} {
				wantStateRecovered(t, "an empty state", impl.State{W: size[0], H: size[1], Limit: limit, Next: next})
			}
			s, _ := impl.StateNew(size[0], size[1], limit)
			wantStateRecovered(t, "a new state", s)
		}
	}
}

// TestStatesOfValidTerminalsAreRecovered: each parser state and screen that is valid, in a pane of each Life.
func TestStatesOfValidTerminalsAreRecovered(t *testing.T) {
	for i, c := range goodChanges() {
		m := impl.Term{P: validVps()[i%len(validVps())], S: changedScr(baseScr(), c.change)}
		for id := 2; id <= 4; id++ {
			s := stateOf(m.S.W, m.S.H, m.S.Limit, 9, []impl.Win{{Id: 1, Name: "w", Tree: lone(id), Active: id, Zoom: id == 3}}, []impl.Sess{{Name: "s", Wins: []int{1}, Active: 1}})
			s.Panes[0].Term = m
			wantStateRecovered(t, c.what, s)
		}
	}
}

func TestStatesOfEachLifeAreRecovered(t *testing.T) {
	for _, cmd := range []string{"", "a", "\x00", "\xff\xfe", "\u4e2d \n\"", strings.Repeat("c", 59), strings.Repeat("\u4e2d", 20), strings.Repeat("\x80", 60)} {
		for _, dir := range []string{"", "/", "\x00", strings.Repeat("/d", 30)} {
			for _, n := range []int{0, 1, 127, 128, 255} {
				wantStateRecovered(t, "a finished pane", onePaneState(t, impl.Pane{Cmd: cmd, Dir: dir, Life: impl.PaDone, Code: n}))
			}
			for _, n := range []int{1, 2, 127, 128, 16383, 16384, 999999, 1000000} {
				wantStateRecovered(t, "a running pane", onePaneState(t, impl.Pane{Cmd: cmd, Dir: dir, Life: impl.PaLive, Pid: n}))
			}
			wantStateRecovered(t, "a waiting pane", onePaneState(t, impl.Pane{Cmd: cmd, Dir: dir, Life: impl.PaWait}))
		}
	}
}

// TestEachDownAndZoom: the directions of three splits and the flags of two windows in every combination.
func TestEachDownAndZoom(t *testing.T) {
	for n := range 32 {
		bit := func(i int) bool { return n>>i&1 == 1 }
		tree := splitOf(bit(0), 4, splitOf(bit(1), 2, lone(3), lone(4)), splitOf(bit(2), 1, lone(5), lone(6)))
		wins := []impl.Win{{Id: 1, Name: "a", Tree: tree, Active: 4, Zoom: bit(3)}, {Id: 2, Name: "b", Tree: lone(7), Active: 7, Zoom: bit(4)}}
		s := stateOf(20, 12, 1, 8, wins, []impl.Sess{{Name: "s", Wins: []int{2, 1}, Active: 2}})
		text := wantStateRecovered(t, fmt.Sprint("the flags ", n), s)
		got, _ := impl.StateRead([]byte(text))
		if nodes := got.Wins[0].Tree; nodes[0].Down != bit(0) || nodes[1].Down != bit(1) || nodes[4].Down != bit(2) || got.Wins[0].Zoom != bit(3) || got.Wins[1].Zoom != bit(4) {
			t.Errorf("the flags %d: %s", n, stateText(got))
		}
	}
}

// TestTreesAreRecovered: each shape of a few panes, and the most nodes.
func TestTreesAreRecovered(t *testing.T) {
	checked := 0
	check := func(tree []impl.Node) {
		t.Helper()
		if _, placed := modelPlaces(tree, 40, 40); !placed {
			return
		}
		checked++
		var ids []int
		for i := range modelLeaves(tree) {
			ids = append(ids, 300-i)
		}
		tree = renumbered(tree, ids...)
		s := stateOf(40, 40, 0, 301, []impl.Win{{Id: 1, Name: "w", Tree: tree, Active: ids[0]}}, []impl.Sess{{Name: "s", Wins: []int{1}, Active: 1}})
		wantStateRecovered(t, fmt.Sprintf("the tree %v", tree), s)
	}
	for n := 1; n <= 4; n++ {
		shapes(n, 1, []int{9, 30}, check)
	}
	small := checked
	if small < 300 {
		t.Errorf("only %d small trees have places", small)
	}
	for _, down := range []bool{false, true} {
		check(chain(16, down, false, 1))
		check(chain(16, down, true, 120))
	}
	check(balanced(4, 1, 9))
	if checked != small+5 {
		t.Error("not all of the greatest trees were checked")
	}
}

func TestStateBytesOfInvalidStates(t *testing.T) {
	written := 0
	for _, c := range badStateChanges() {
		s := changedState(sampleState(), c.change)
		wantNoStateBytes(t, c.what, s)
		if hasTokens(s) && len(s.Sess) < 9 {
			wantNoStateRead(t, "the encoding of "+c.what, modelStateBytes(s))
			written++
		}
	}
	wantNoStateBytes(t, "the zero value", impl.State{})
	wantNoStateBytes(t, "several of each", lookupState())
	wantNoStateRead(t, "the encoding of the zero value", modelStateBytes(impl.State{}))
	if written < 100 {
		t.Errorf("only %d states that are not valid were encoded", written)
	}
}

// wideState has a window of one pane for each terminal of 100 columns and 40 rows.
func wideState(terms ...impl.Term) impl.State {
	s := impl.State{W: 100, H: 40, Next: 101, Sess: []impl.Sess{{Name: "s", Active: 1}}}
	for i, m := range terms {
		p := paneOf(20+i, m)
		s.Panes = append(s.Panes, p)
		s.Wins = append(s.Wins, impl.Win{Id: i + 1, Name: "w", Tree: lone(p.Id), Active: p.Id})
		s.Sess[0].Wins = append(s.Sess[0].Wins, i+1)
	}
	return s
}

// filledState has an encoding of n bytes, from about 148600 to 152500.
func filledState(t *testing.T, n int) impl.State {
	s := wideState(filledTerm(t, 37500), filledTerm(t, 37501), filledTerm(t, 37499), filledTerm(t, 37500))
	more := n - len(modelStateBytes(s))
	s.Panes[3].Term = filledTerm(t, 37500+more)
	if len(modelStateBytes(s)) != n || !modelStateOk(s) {
		t.Fatalf("the encoding has %d bytes; want %d", len(modelStateBytes(s)), n)
	}
	return s
}

func TestEncodingsOfMaxSnapBytes(t *testing.T) {
	for _, n := range []int{149000, 149998, 149999, 150000} {
		text := wantStateRecovered(t, fmt.Sprint(n, " bytes"), filledState(t, n))
		if len(text) != n {
			t.Errorf("%d bytes instead of %d", len(text), n)
		}
		wantNoStateRead(t, "a byte fewer", text[:n-1])
		wantNoStateRead(t, "a byte more", text+"\x00")
	}
	full := filledState(t, 150000)
	refused := map[string]impl.State{
		"a byte more in a command":   changedState(full, func(s *impl.State) { s.Panes[1].Cmd += "x" }),
		"a byte more in a directory": changedState(full, func(s *impl.State) { s.Panes[3].Dir += "x" }),
		"a byte more in a window":    changedState(full, func(s *impl.State) { s.Wins[2].Name += "x" }),
		"a byte more in a session":   changedState(full, func(s *impl.State) { s.Sess[0].Name += "x" }),
		"a byte more in a number":    changedState(full, func(s *impl.State) { s.Next = 128 }),
		"a byte more in a terminal":  filledState(t, 150001),
		"two bytes more":             filledState(t, 150002),
		"many bytes more":            filledState(t, 152000),
		"the greatest terminals":     wideState(slices.Repeat([]impl.Term{filledTerm(t, 40000)}, 12)...),
	}
	for what, s := range refused {
		if !impl.StateOk(s) || len(modelStateBytes(s)) <= 150000 {
			t.Fatalf("%s: the state is not valid, or its encoding is too short", what)
		}
		wantNoStateBytes(t, what, s)
		wantNoStateRead(t, what, modelStateBytes(s))
		wantNoStateRead(t, what+": its first MaxSnap bytes", modelStateBytes(s)[:150000])
	}
	exchanged := changedState(full, func(s *impl.State) { s.Panes[0].Cmd, s.Panes[1].Dir = "run 20x", "/2" })
	if text := wantStateRecovered(t, "as many bytes in other strings", exchanged); len(text) != 150000 {
		t.Errorf("%d bytes", len(text))
	}
}

// TestStatesWithoutTermBytes: no terminal may be too large for its own encoding, even if the whole has few bytes.
func TestStatesWithoutTermBytes(t *testing.T) {
	blank := newTerm(t, 100, 40, 0)
	for _, n := range []int{40000, 40001, 40002, 41000, 48029} {
		for at := range 3 {
			terms := []impl.Term{blank, blank, blank}
			terms[at] = filledTerm(t, n)
			s := wideState(terms...)
			what := fmt.Sprintf("the terminal %d needs %d bytes", at, n)
			if !impl.StateOk(s) {
				t.Fatalf("%s: the state is not valid", what)
			}
			if n <= 40000 {
				wantStateRecovered(t, what, s)
				continue
			}
			wantNoStateBytes(t, what, s)
			wantNoStateRead(t, what, modelStateBytes(s))
		}
	}
}

// readStates are those whose encodings the tests change in every place.
func readStates(t *testing.T) []impl.State {
	small := onePaneState(t, impl.Pane{Cmd: "sh", Dir: "/x", Life: impl.PaLive, Pid: 129})
	twoWins := stateOf(3, 3, 1, 200, []impl.Win{{Id: 1, Name: "a", Tree: below(1, lone(2), lone(130)), Active: 2, Zoom: true}, {Id: 131, Name: "b", Tree: lone(132), Active: 132}}, []impl.Sess{{Name: "s", Wins: []int{131, 1}, Active: 1}})
	plain := countedState([]int{2, 1}, []int{1, 1})
	return []impl.State{{W: 9, H: 4, Limit: 2, Next: 1}, small, twoWins, plain, sampleState()}
}

func TestTornEncodingsOfStates(t *testing.T) {
	for i, s := range readStates(t) {
		text := wantStateRecovered(t, fmt.Sprint("the state ", i), s)
		for n := range text {
			wantNoStateRead(t, fmt.Sprintf("the first %d bytes of the state %d", n, i), text[:n])
			if n > 0 {
				checkStateRead(t, fmt.Sprintf("the state %d without its first %d bytes", i, n), text[n:])
			}
		}
		for b := range 256 {
			wantNoStateRead(t, fmt.Sprintf("the state %d and the byte %d", i, b), text+string([]byte{byte(b)}))
		}
		wantNoStateRead(t, "twice the same", text+text)
		wantNoStateRead(t, "many bytes behind it", text+strings.Repeat("\x00", 200000))
	}
	wantNoStateRead(t, "no bytes", "")
	if s, ok := impl.StateRead(nil); ok || !equalStates(s, impl.State{}) {
		t.Error("StateRead of nil returns a state")
	}
}

func TestEncodingsOfStatesWithAChangedByte(t *testing.T) {
	for i, s := range readStates(t) {
		text := modelStateBytes(s)
		step := 1 + len(text)/300
		for at := range text {
			for k, b := range []byte{0, 1, 2, 3, 127, 128, 255, text[at] + 1, text[at] - 1, text[at] ^ 64} {
				if b == text[at] || (at+k)%step > 0 {
					continue
				}
				checkStateRead(t, fmt.Sprintf("the byte %d of the state %d as %d", at, i, b), text[:at]+string([]byte{b})+text[at+1:])
				checkStateRead(t, fmt.Sprintf("the byte %d before that at %d of the state %d", b, at, i), text[:at]+string([]byte{b})+text[at:])
			}
			checkStateRead(t, fmt.Sprintf("without the byte %d of the state %d", at, i), text[:at]+text[at+1:])
		}
		if t.Failed() {
			t.FailNow()
		}
	}
}

// TestEncodingsOfStatesWithAChangedNumber: each number of an encoding, and every number near it or near a limit.
func TestEncodingsOfStatesWithAChangedNumber(t *testing.T) {
	limits := []int{0, 1, 2, 3, 4, 8, 9, 12, 13, 20, 24, 25, 31, 32, 60, 61, 100, 101, 120, 121, 255, 256, 999999, 1000000, 1000001, 1 << 31, impl.MaxNum}
	for i, s := range readStates(t) {
		l := stateTokens(s)
		for at, x := range l {
			if x.isText {
				continue
			}
			for _, n := range append([]int{x.number - 1, x.number + 1, x.number + 128, x.number + 256, x.number + 1<<16}, limits...) {
				if n >= 0 && n <= impl.MaxNum && n != x.number {
					checkStateRead(t, fmt.Sprintf("%s of the state %d, the token %d, as %d", x.what, i, at, n), l.with(at, varint(n)))
				}
			}
			checkStateRead(t, fmt.Sprintf("without %s of the state %d, the token %d", x.what, i, at), l.with(at, ""))
		}
		if t.Failed() {
			t.FailNow()
		}
	}
}

// TestCountsAndFlagsOfStates: those that are not just what is there make an encoding none, whatever follows.
func TestCountsAndFlagsOfStates(t *testing.T) {
	others := map[string][]int{
		"panes":    {0, 1, 2, 3, 4, 8, 9, 10, 23, 24, 25, 1000, 1 << 31, impl.MaxNum},
		"windows":  {0, 1, 2, 3, 4, 5, 11, 12, 13, 1000, 1 << 31, impl.MaxNum},
		"sessions": {0, 1, 2, 3, 4, 7, 8, 9, 1000, 1 << 31, impl.MaxNum},
		"nodes":    {0, 1, 2, 3, 4, 5, 6, 7, 8, 30, 31, 32, 1000, 1 << 31, impl.MaxNum},
		"Wins":     {0, 1, 2, 3, 11, 12, 13, 1000, 1 << 31, impl.MaxNum},
		"Down":     {2, 3, 127, 128, 129, 256, 257, 1 << 31, impl.MaxNum},
		"Zoom":     {2, 3, 127, 128, 129, 256, 257, 1 << 31, impl.MaxNum},
	}
	seen := map[string]int{}
	for i, s := range readStates(t) {
		l := stateTokens(s)
		for at, x := range l {
			for _, n := range others[x.what] {
				if n == x.number {
					continue
				}
				what := fmt.Sprintf("%d %s instead of %d in the state %d", n, x.what, x.number, i)
				wantNoStateRead(t, what, l.with(at, varint(n)))
				for _, behind := range []string{"\x00", "\x01", "\x00\x00\x00", strings.Repeat("\x00", 1000), strings.Repeat("\x01", 1000)} {
					checkStateRead(t, what, l.with(at, varint(n))+behind)
					checkStateRead(t, what, l[:at].join()+varint(n)+behind)
				}
				seen[x.what]++
			}
		}
	}
	for what := range others {
		if seen[what] == 0 {
			t.Errorf("no state has %s", what)
		}
	}
}

// TestNumbersOfStatesThatAreNotTheShortest: each number of an encoding in one of the ways that PutVar never writes.
func TestNumbersOfStatesThatAreNotTheShortest(t *testing.T) {
	for i, s := range readStates(t) {
		l := stateTokens(s)
		for at, x := range l {
			if x.isText {
				continue
			}
			last := len(x.text) - 1
			longer := x.text[:last] + string([]byte{x.text[last] | 128})
			what := fmt.Sprintf("%s of the state %d, the token %d", x.what, i, at)
			wantNoStateRead(t, what+" with a zero byte", l.with(at, longer+"\x00"))
			wantNoStateRead(t, what+" with two zero bytes", l.with(at, longer+"\x80\x00"))
			for _, other := range append(badVars(), longer+"\x80\x80\x80\x80\x80\x80\x80\x80\x00", longer) {
				checkStateRead(t, fmt.Sprintf("%s as % x", what, other), l.with(at, other))
			}
			wantNoStateRead(t, what+" as the last one, without an end", l[:at].join()+longer)
		}
	}
}

// TestStringsOfStates: their lengths may be at most what is there, and what is there may be at most what is valid.
func TestStringsOfStates(t *testing.T) {
	sized := func(text string) string { return varint(len(text)) + text }
	most := map[string]int{"Cmd": 60, "Dir": 60, "name of a window": 12, "name of a session": 12}
	for i, s := range readStates(t)[1:] {
		l := stateTokens(s)
		for at, x := range l {
			if !x.isText || most[x.what] == 0 {
				continue
			}
			what := fmt.Sprintf("%s of the state %d, the token %d", x.what, i, at)
			with := func(text string) string { return l[:at-1].join() + text + l[at+1:].join() }
			for _, n := range []int{0, 1, 11, 12, 13, 14, 59, 60, 61, 62, 127, 128, 3999, 4000, 4001, 5000, 40000} {
				text := strings.Repeat("q", n)
				ok := checkStateRead(t, what, with(sized(text)))
				if want := n <= most[x.what] && (most[x.what] == 60 || n > 0); ok != want {
					t.Errorf("%s: a string of %d bytes is read: %v", what, n, ok)
				}
				if n > len(l.join()) {
					wantNoStateRead(t, what+": more than there is", l.with(at-1, varint(n)))
				}
			}
			for _, n := range []int{len(x.text) - 1, len(x.text) + 1} {
				if n >= 0 {
					checkStateRead(t, what+": another length", l.with(at-1, varint(n)))
				}
			}
			wantNoStateRead(t, what+": a length of MaxNum", l.with(at-1, varint(impl.MaxNum)))
			if most[x.what] == 12 {
				for _, name := range badNames() {
					wantNoStateRead(t, fmt.Sprintf("%s: the name %q", what, name), with(sized(name)))
				}
			}
		}
	}
}

// TestTerminalsInEncodingsOfStates: their length must be right, and what follows must be the encoding of just the right terminal.
func TestTerminalsInEncodingsOfStates(t *testing.T) {
	sized := func(text string) string { return varint(len(text)) + text }
	for i, s := range readStates(t)[1:] {
		l := stateTokens(s)
		for at, x := range l {
			if x.what != "terminal" {
				continue
			}
			what := fmt.Sprintf("the terminal of the state %d, the token %d", i, at)
			with := func(text string) string { return l[:at-1].join() + text + l[at+1:].join() }
			n := len(x.text)
			for _, other := range []int{0, 1, n - 1, n + 1, n + 128, 2 * n, 4000, 4001, 40000, 40001, 1 << 31, impl.MaxNum} {
				wantNoStateRead(t, fmt.Sprintf("%s: the length %d instead of %d", what, other, n), l.with(at-1, varint(other)))
				checkStateRead(t, what, l.with(at-1, varint(other))+strings.Repeat("\x00", 50000))
			}
			for _, text := range []string{"", "\x00", x.text[:n-1], x.text[1:], x.text + "\x00", x.text + x.text, strings.Repeat("\x00", n), strings.Repeat("\xff", n), strings.Repeat("q", 40000), strings.Repeat("q", 50000)} {
				wantNoStateRead(t, what+": no encoding", with(sized(text)))
			}
			term, _ := modelTermRead(x.text)
			for _, size := range [][2]int{{term.S.W + 1, term.S.H}, {term.S.W, term.S.H + 1}, {1, 120}} {
				other, _ := modelSized(term.S, size[0], size[1])
				wantNoStateRead(t, what+": another size", with(sized(modelTermBytes(impl.Term{P: term.P, S: other}))))
			}
			other := deepTerm(term)
			other.S.Limit++
			wantNoStateRead(t, what+": another Limit", with(sized(modelTermBytes(other))))
			fresh := newTerm(t, term.S.W, term.S.H, term.S.Limit)
			if !checkStateRead(t, what, with(sized(modelTermBytes(fresh)))) {
				t.Errorf("%s: another one of its size is not read", what)
			}
		}
	}
}

// TestStateReadOfTooMany: more panes, windows, sessions and nodes than a state may have, all of them there.
func TestStateReadOfTooMany(t *testing.T) {
	ones := slices.Repeat([]int{1}, 60)
	for what, s := range map[string]impl.State{
		"one pane more":                     countedState([]int{16, 9}, []int{2}),
		"one window more":                   countedState(ones[:13], []int{13}),
		"one window more, in two sessions":  countedState(ones[:13], []int{12, 1}),
		"one session more":                  countedState(ones[:9], ones[:9]),
		"very many":                         countedState(ones, ones),
		"a window twice in a session":       changedState(sampleState(), func(s *impl.State) { s.Sess[1].Wins = []int{4, 4} }),
		"very many windows of one session":  changedState(sampleState(), func(s *impl.State) { s.Sess[1].Wins = slices.Repeat([]int{4}, 100000) }),
		"very many nodes":                   changedState(sampleState(), func(s *impl.State) { s.Wins[2].Tree = slices.Repeat([]impl.Node{{First: 1}}, 30000) }),
		"two nodes more":                    changedState(sampleState(), func(s *impl.State) { s.Wins[2].Tree = chain(17, false, false, 1) }),
		"a tree that is not complete":       changedState(sampleState(), func(s *impl.State) { s.Wins[2].Tree = beside(4, lone(10), nil) }),
		"a window without nodes":            changedState(sampleState(), func(s *impl.State) { s.Wins[2].Tree = nil }),
		"a session without windows":         changedState(sampleState(), func(s *impl.State) { s.Sess[1].Wins = nil }),
		"a leaf with a direction":           changedState(sampleState(), func(s *impl.State) { s.Wins[2].Tree[0].Down = true }),
		"a leaf with a First":               changedState(sampleState(), func(s *impl.State) { s.Wins[2].Tree[0].First = 1 }),
		"a session of the greatest window":  changedState(sampleState(), func(s *impl.State) { s.Sess[1].Wins = []int{impl.MaxNum} }),
		"the greatest numbers of all kinds": {W: impl.MaxNum, H: impl.MaxNum, Limit: impl.MaxNum, Next: impl.MaxNum},
	} {
		wantNoStateBytes(t, what, s)
		wantNoStateRead(t, what, modelStateBytes(s))
	}
	for _, text := range []string{strings.Repeat("\x00", 1000000), strings.Repeat("\x01", 1000000), strings.Repeat("\xff", 1000000), strings.Repeat("\x80", 1000000)} {
		wantNoStateRead(t, "very many bytes", text)
		wantNoStateRead(t, "very many bytes behind a beginning", "\x09\x04\x02\x01"+text)
		wantNoStateRead(t, "very many bytes and as many panes", "\x09\x04\x02\x01"+varint(impl.MaxNum)+text)
	}
}

func TestRandomEncodingsOfStates(t *testing.T) {
	r := rand.New(rand.NewSource(22))
	recovered, read := 0, 0
	for range 250 {
		s := randomState(r)
		if len(s.Panes) > 24 {
			wantNoStateBytes(t, "too many panes", s)
			continue
		}
		text := wantStateRecovered(t, "a random state", s)
		recovered++
		for range 4 {
			if other := brokenState(r, s); modelStateOk(other) {
				wantStateRecovered(t, "a random state that is changed", other)
			} else {
				wantNoStateBytes(t, "a random state that is changed", other)
				if hasTokens(other) {
					checkStateRead(t, "the encoding of a state that is not valid", modelStateBytes(other))
				}
			}
		}
		for range 15 {
			broken := []byte(text)
			for range 1 + r.Intn(3) {
				at := r.Intn(len(broken) + 1)
				broken = slices.Concat(broken[:at], []byte{byte([]int{0, 1, 2, 32, 128, r.Intn(256)}[r.Intn(6)])}, broken[min(len(broken), at+r.Intn(3)):])
			}
			if checkStateRead(t, "a random change", string(broken)) {
				read++
			}
		}
		noise := make([]byte, r.Intn(60))
		for i := range noise {
			noise[i] = byte(r.Intn(1 + r.Intn(256)))
		}
		checkStateRead(t, "random bytes", string(noise))
		if t.Failed() {
			t.FailNow()
		}
	}
	if recovered < 150 || read < 50 {
		t.Errorf("%d states were recovered, and %d changed ones were read", recovered, read)
	}
}

// TestOutputGoesOnAfterTheEncodingOfAState: a pane in a recovered state is the same at the end of an output.
func TestOutputGoesOnAfterTheEncodingOfAState(t *testing.T) {
	s := sampleState()
	for i, text := range termOutputs() {
		p := &s.Panes[i%len(s.Panes)]
		want := fed(p.Term, text)
		half := len(text) / 2
		p.Term = fed(p.Term, text[:half])
		read, ok := impl.StateRead([]byte(wantStateRecovered(t, "within an output", s)))
		if !ok {
			t.Fatalf("%q is not recovered", text[:half])
		}
		got := fed(read.Panes[i%len(s.Panes)].Term, text[half:])
		wantTerm(t, fmt.Sprintf("%q in a recovered state", text), got, want)
		p.Term = got
	}
}

// storeResults calls the functions of the chapter, also with bytes that are no encoding.
func storeResults(s impl.State, code []byte) ([]byte, []impl.State) {
	b, _ := impl.StateBytes(s)
	read, _ := impl.StateRead(code)
	half, _ := impl.StateRead(code[:len(code)/2])
	return b, []impl.State{read, half}
}

func TestStoreFunctionsLeaveTheirArgumentsAlone(t *testing.T) {
	for i, s := range sharingStates() {
		s = spareState(s)
		code, allCode := withSpare(modelStateBytes(sampleState()))
		before, codeBefore := wholeState(s), string(allCode)
		unchanged := func(when string) {
			t.Helper()
			wantState(t, fmt.Sprintf("%s: the argument %d with its spare capacity", when, i), wholeState(s), before)
			if string(allCode) != codeBefore {
				t.Errorf("%s: the bytes, or the spare capacity behind them, are changed", when)
			}
		}
		b, read := storeResults(s, code)
		unchanged("after the calls")
		text := string(b)
		again, readAgain := storeResults(s, code)
		overwrite(b)
		for _, r := range read {
			overwriteState(r)
		}
		unchanged("after the results were overwritten")
		if string(again) != text {
			t.Errorf("the bytes of the state %d are changed with other results", i)
		}
		third, readThird := storeResults(s, code)
		overwriteState(s)
		overwrite(allCode)
		if string(third) != text {
			t.Errorf("the bytes of the state %d are changed with its memory", i)
		}
		for k := range readThird {
			wantState(t, fmt.Sprintf("the state %d after others were overwritten", k), readThird[k], readAgain[k])
		}
	}
}

// TestSlicesOfOneReadStateShareNothing overwrites each slice of a result and looks at what the others have then.
func TestSlicesOfOneReadStateShareNothing(t *testing.T) {
	for i, s := range append(readStates(t), countedState([]int{4, 2}, []int{2})) {
		code := []byte(modelStateBytes(s))
		want, ok := impl.StateRead(code)
		if !ok {
			t.Fatalf("the state %d is not read", i)
		}
		for at := range stateMemory(&want) {
			got, _ := impl.StateRead(code)
			expected := deepState(got)
			stateMemory(&got)[at]()
			stateMemory(&expected)[at]()
			wantState(t, fmt.Sprintf("the state %d with the slice %d overwritten", i, at), got, expected)
		}
	}
}
