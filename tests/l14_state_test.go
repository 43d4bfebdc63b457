package tests

import (
	"cmp"
	"fmt"
	"math"
	"math/rand"
	"reflect"
	"regexp"
	"slices"
	"strings"
	"testing"

	"loop.example/g00661/impl"
)

// paneTerm has a parser state, a cursor, grids and a scrollback that depend on the number.
func paneTerm(w int, h int, limit int, n int) impl.Term {
	s := sampleScr(w, h, limit, min(limit, n%4))
	s.Main.Cells[0].R = 50000 + n%1000
	s.X, s.Y, s.OnAlt = n%w, n%h, n%5 == 0
	return impl.Term{P: validVps()[n%len(validVps())], S: s}
}

// paneOf is running, finished or waiting, depending on its number.
func paneOf(id int, term impl.Term) impl.Pane {
	p := impl.Pane{Id: id, Cmd: fmt.Sprint("run ", id), Dir: fmt.Sprint("/", id), Term: term}
	switch id % 3 {
	case 0:
		p.Life, p.Pid = impl.PaLive, 5000+id
	case 1:
		p.Life, p.Code = impl.PaDone, id%256
	case 2:
		p.Life = impl.PaWait
	}
	return p
}

// stateOf has a pane for every leaf of the windows.
func stateOf(w int, h int, limit int, next int, wins []impl.Win, sess []impl.Sess) impl.State {
	s := impl.State{W: w, H: h, Limit: limit, Next: next, Wins: wins, Sess: sess}
	var ids []int
	for _, win := range wins {
		ids = append(ids, modelLeaves(win.Tree)...)
	}
	slices.Sort(ids)
	for _, id := range ids {
		columns, rows := modelSpace(s, id)
		s.Panes = append(s.Panes, paneOf(id, paneTerm(columns, rows, limit, id)))
	}
	return s
}

// renumbered gives other numbers to the leaves of a tree, in order.
func renumbered(l []impl.Node, panes ...int) []impl.Node {
	l = slices.Clone(l)
	for i := range l {
		if l[i].Pane != 0 {
			l[i].Pane, panes = panes[0], panes[1:]
		}
	}
	return l
}

// sampleState has sessions of one and of two windows, and windows of one to four panes, the second one with a zoomed pane.
func sampleState() impl.State {
	wins := []impl.Win{
		{Id: 1, Name: "sh", Tree: renumbered(sampleTree(), 2, 3, 5, 8), Active: 5},
		{Id: 4, Name: "editor", Tree: beside(6, lone(7), lone(6)), Active: 6, Zoom: true},
		{Id: 9, Name: "sh", Tree: lone(10), Active: 10},
		{Id: 11, Name: "logs", Tree: below(3, lone(13), lone(12)), Active: 12},
	}
	sess := []impl.Sess{
		{Name: "main", Wins: []int{9, 1}, Active: 1},
		{Name: "b2", Wins: []int{4}, Active: 4},
		{Name: "work", Wins: []int{11}, Active: 11},
	}
	return stateOf(14, 7, 3, 20, wins, sess)
}

// countedState has windows with these numbers of panes, in sessions with these numbers of windows.
func countedState(panes []int, wins []int) impl.State {
	next := 1
	var windows []impl.Win
	for _, n := range panes {
		id := next
		var leaves []int
		for range n {
			next++
			leaves = append(leaves, next)
		}
		next++
		windows = append(windows, impl.Win{Id: id, Name: "w", Tree: renumbered(chain(n, false, false, 1), leaves...), Active: next - 1})
	}
	var sess []impl.Sess
	at := 0
	for i, n := range wins {
		x := impl.Sess{Name: fmt.Sprint("s", i), Active: windows[at].Id}
		for range n {
			x.Wins = append(x.Wins, windows[at].Id)
			at++
		}
		sess = append(sess, x)
	}
	return stateOf(40, 2, 1, next, windows, sess)
}

func deepState(s impl.State) impl.State {
	s.Panes, s.Wins, s.Sess = slices.Clone(s.Panes), slices.Clone(s.Wins), slices.Clone(s.Sess)
	for i := range s.Panes {
		s.Panes[i].Term = deepTerm(s.Panes[i].Term)
	}
	for i := range s.Wins {
		s.Wins[i].Tree = slices.Clone(s.Wins[i].Tree)
	}
	for i := range s.Sess {
		s.Sess[i].Wins = slices.Clone(s.Sess[i].Wins)
	}
	return s
}

func changedState(s impl.State, change func(s *impl.State)) impl.State {
	s = deepState(s)
	change(&s)
	return s
}

func equalPanes(a, b impl.Pane) bool {
	same := equalTerms(a.Term, b.Term)
	a.Term, b.Term = impl.Term{}, impl.Term{}
	return same && reflect.DeepEqual(a, b)
}

func equalWins(a, b impl.Win) bool {
	same := slices.Equal(a.Tree, b.Tree)
	a.Tree, b.Tree = nil, nil
	return same && reflect.DeepEqual(a, b)
}

func equalSess(a, b impl.Sess) bool {
	return a.Name == b.Name && a.Active == b.Active && slices.Equal(a.Wins, b.Wins)
}

func equalStates(a, b impl.State) bool {
	same := slices.EqualFunc(a.Panes, b.Panes, equalPanes) && slices.EqualFunc(a.Wins, b.Wins, equalWins) && slices.EqualFunc(a.Sess, b.Sess, equalSess)
	return same && a.W == b.W && a.H == b.H && a.Limit == b.Limit && a.Next == b.Next
}

// stateText says of a terminal only its size and its limit.
func stateText(s impl.State) string {
	var b strings.Builder
	fmt.Fprintf(&b, "%d, %d, limit %d, next %d", s.W, s.H, s.Limit, s.Next)
	for _, p := range s.Panes {
		fmt.Fprintf(&b, "\n  pane %d %q %q life %d code %d pid %d: %d, %d, limit %d", p.Id, p.Cmd, p.Dir, p.Life, p.Code, p.Pid, p.Term.S.W, p.Term.S.H, p.Term.S.Limit)
	}
	for _, w := range s.Wins {
		fmt.Fprintf(&b, "\n  window %+v", w)
	}
	for _, x := range s.Sess {
		fmt.Fprintf(&b, "\n  session %+v", x)
	}
	return b.String()
}

func wantState(t *testing.T, what string, got, want impl.State) {
	t.Helper()
	if equalStates(got, want) {
		return
	}
	t.Errorf("%s:\n the state is %s;\n want %s", what, stateText(got), stateText(want))
	for i := range min(len(got.Panes), len(want.Panes)) {
		wantTerm(t, fmt.Sprint(what, ": the terminal ", i), got.Panes[i].Term, want.Panes[i].Term)
	}
}

func modelPaneOk(p impl.Pane) bool {
	ok := p.Id >= 1 && p.Id <= 1000000 && len(p.Cmd) <= 60 && len(p.Dir) <= 60 && modelTermOk(p.Term)
	live := p.Life == 1 && p.Pid >= 1 && p.Pid <= 1000000 && p.Code == 0
	done := p.Life == 2 && p.Code >= 0 && p.Code <= 255 && p.Pid == 0
	wait := p.Life == 3 && p.Code == 0 && p.Pid == 0
	return ok && (live || done || wait)
}

var wordPattern = regexp.MustCompile(`\A[a-z0-9]{1,12}\z`)

// modelSpace looks for the pane in one window after the other.
func modelSpace(s impl.State, pane int) (int, int) {
	for _, w := range s.Wins {
		if !slices.Contains(modelLeaves(w.Tree), pane) {
			continue
		}
		if w.Zoom && w.Active == pane {
			return s.W, s.H
		}
		place, _ := modelPlaceOf(w.Tree, s.W, s.H, pane)
		return place.W, place.H
	}
	return 0, 0
}

// count returns how many elements of a list satisfy a condition.
func count[T any](list []T, fits func(x T) bool) int {
	n := 0
	for _, x := range list {
		if fits(x) {
			n++
		}
	}
	return n
}

// modelStateOk counts for each element how often the state has what belongs to it.
func modelStateOk(s impl.State) bool {
	ok := modelSize(s.W, s.H) && s.Limit >= 0 && s.Limit <= 100 && s.Next >= 1 && s.Next <= 1000000
	if !ok || len(s.Panes) > 24 || len(s.Wins) > 12 || len(s.Sess) > 8 {
		return false
	}
	var leaves, members []int
	for _, w := range s.Wins {
		leaves = append(leaves, modelLeaves(w.Tree)...)
	}
	for _, x := range s.Sess {
		members = append(members, x.Wins...)
	}
	for i := range s.Panes {
		ok = ok && modelPaneInState(s, i, leaves)
	}
	for i := range s.Wins {
		ok = ok && modelWinInState(s, i, members)
	}
	for _, x := range s.Sess {
		ok = ok && modelSessInState(s, x)
	}
	return ok
}

func modelPaneInState(s impl.State, at int, leaves []int) bool {
	p := s.Panes[at]
	w, h := modelSpace(s, p.Id)
	same := count(s.Panes, func(other impl.Pane) bool { return other.Life == 1 && other.Pid == p.Pid })
	return modelPaneOk(p) && p.Id < s.Next &&
		count(s.Panes[:at], func(other impl.Pane) bool { return other.Id >= p.Id }) == 0 &&
		count(s.Wins, func(w impl.Win) bool { return w.Id == p.Id }) == 0 &&
		(p.Life != 1 || same == 1) &&
		count(leaves, func(pane int) bool { return pane == p.Id }) == 1 &&
		p.Term.S.W == w && p.Term.S.H == h && p.Term.S.Limit == s.Limit
}

func modelWinInState(s impl.State, at int, members []int) bool {
	w := s.Wins[at]
	for _, pane := range modelLeaves(w.Tree) {
		if count(s.Panes, func(p impl.Pane) bool { return p.Id == pane }) != 1 {
			return false
		}
	}
	_, placed := modelPlaces(w.Tree, s.W, s.H)
	return w.Id >= 1 && w.Id < s.Next && placed &&
		count(s.Wins[:at], func(other impl.Win) bool { return other.Id >= w.Id }) == 0 &&
		count(modelLeaves(w.Tree), func(pane int) bool { return pane == w.Active }) == 1 &&
		wordPattern.MatchString(w.Name) &&
		count(members, func(win int) bool { return win == w.Id }) == 1
}

func modelSessInState(s impl.State, x impl.Sess) bool {
	for _, win := range x.Wins {
		if count(s.Wins, func(w impl.Win) bool { return w.Id == win }) != 1 {
			return false
		}
	}
	return wordPattern.MatchString(x.Name) && len(x.Wins) >= 1 &&
		count(s.Sess, func(other impl.Sess) bool { return other.Name == x.Name }) == 1 &&
		count(x.Wins, func(win int) bool { return win == x.Active }) == 1
}

func modelFit(s impl.State) impl.State {
	fitted := deepState(s)
	for i, p := range s.Panes {
		w, h := modelSpace(s, p.Id)
		if p.Term.S.W == w && p.Term.S.H == h {
			continue
		}
		sized, ok := modelSized(p.Term.S, w, h)
		if ok && modelVpOk(p.Term.P) {
			fitted.Panes[i].Term.S = sized
		}
	}
	return fitted
}

func modelLost(s impl.State) impl.State {
	if !modelStateOk(s) {
		return impl.State{}
	}
	lost := deepState(s)
	for i, p := range s.Panes {
		if p.Pid != 0 {
			lost.Panes[i] = impl.Pane{Id: p.Id, Cmd: p.Cmd, Dir: p.Dir, Life: 3, Term: lost.Panes[i].Term}
		}
	}
	return lost
}

// numbersAround are those that a state mentions, those beside them, and some that no state of these tests has.
func numbersAround(s impl.State) []int {
	found := map[int]bool{0: true, -1: true, 1000000: true, 1000001: true, s.Next: true}
	add := func(numbers ...int) {
		for _, n := range numbers {
			found[n-1], found[n], found[n+1] = true, true, true
		}
	}
	for _, p := range s.Panes {
		add(p.Id)
	}
	for _, w := range s.Wins {
		add(w.Id, w.Active)
		for _, n := range w.Tree {
			add(n.Pane)
		}
	}
	for _, x := range s.Sess {
		add(x.Wins...)
	}
	var l []int
	for n := range found {
		l = append(l, n)
	}
	slices.Sort(l)
	return l
}

// indexOf returns the index of the first of n elements that fits, or -1.
func indexOf(n int, fits func(i int) bool) int {
	for i := range n {
		if fits(i) {
			return i
		}
	}
	return -1
}

func checkLookups(t *testing.T, what string, s impl.State) {
	t.Helper()
	want := func(name string, of any, got, want int) {
		t.Helper()
		if got != want {
			t.Errorf("%s: %s of %v returns %d; want %d: %s", what, name, of, got, want, stateText(s))
		}
	}
	for _, n := range numbersAround(s) {
		want("PaneAt", n, impl.PaneAt(s, n), indexOf(len(s.Panes), func(i int) bool { return s.Panes[i].Id == n }))
		want("WinAt", n, impl.WinAt(s, n), indexOf(len(s.Wins), func(i int) bool { return s.Wins[i].Id == n }))
		want("WinOf", n, impl.WinOf(s, n), indexOf(len(s.Wins), func(i int) bool { return slices.Contains(modelLeaves(s.Wins[i].Tree), n) }))
		want("SessOf", n, impl.SessOf(s, n), indexOf(len(s.Sess), func(i int) bool { return slices.Contains(s.Sess[i].Wins, n) }))
		w, h := impl.Area(s, n)
		columns, rows := modelSpace(s, n)
		want("the columns of Area", n, w, columns)
		want("the rows of Area", n, h, rows)
	}
	names := []string{"", "none", "main"}
	for _, x := range s.Sess {
		names = append(names, x.Name, x.Name+"x", x.Name[:len(x.Name)/2])
	}
	for _, name := range names {
		want("SessAt", name, impl.SessAt(s, name), indexOf(len(s.Sess), func(i int) bool { return s.Sess[i].Name == name }))
	}
}

// checkState compares everything that the chapter says of a state with the models.
func checkState(t *testing.T, what string, s impl.State, wantOk bool) {
	t.Helper()
	if impl.StateOk(s) != wantOk || modelStateOk(s) != wantOk {
		t.Errorf("%s: StateOk is %v, and its model is %v: %s", what, impl.StateOk(s), modelStateOk(s), stateText(s))
	}
	checkLookups(t, what, s)
	wantState(t, what+": Fit", impl.Fit(s), modelFit(s))
	wantState(t, what+": Lost", impl.Lost(s), modelLost(s))
	if wantOk {
		checkValidState(t, what, s)
	}
}

// checkValidState is the part of P1 about states: a valid one fits, and it stays valid without its processes, which it can lose only once.
func checkValidState(t *testing.T, what string, s impl.State) {
	t.Helper()
	wantState(t, what+": Fit of a valid state", impl.Fit(s), s)
	lost := impl.Lost(s)
	if !impl.StateOk(lost) || !modelStateOk(lost) {
		t.Errorf("%s: the state without processes is not valid: %s", what, stateText(lost))
	}
	if count(lost.Panes, func(p impl.Pane) bool { return p.Life == impl.PaLive || p.Pid != 0 }) > 0 {
		t.Errorf("%s: a process is left: %s", what, stateText(lost))
	}
	wantState(t, what+": Lost of Lost", impl.Lost(lost), lost)
	wantState(t, what+": Fit of Lost", impl.Fit(lost), lost)
}

func TestStateConstants(t *testing.T) {
	limits := []int{impl.MaxPanes, impl.MaxWins, impl.MaxSess, impl.MaxCmd}
	lives := []int{impl.PaLive, impl.PaDone, impl.PaWait}
	if !slices.Equal(limits, []int{24, 12, 8, 60}) || !slices.Equal(lives, []int{1, 2, 3}) {
		t.Error("a constant of the states has another value")
	}
}

func TestPaneOkOfIdsAndTexts(t *testing.T) {
	check := func(what string, p impl.Pane, want bool) {
		t.Helper()
		if impl.PaneOk(p) != want || modelPaneOk(p) != want {
			t.Errorf("PaneOk is %v, and its model is %v: %s", impl.PaneOk(p), modelPaneOk(p), what)
		}
	}
	term := sampleTerm()
	for id := range 3 {
		base := paneOf(id, term)
		for _, n := range append(extremeInts(), -2, -1, 0, 1, 2, 7, 999999, 1000000, 1000001) {
			p := base
			p.Id = n
			check(fmt.Sprint("the Id ", n), p, n >= 1 && n <= 1000000)
		}
		base.Id = 5
		for _, n := range []int{0, 1, 12, 59, 60, 61, 62, 120, 4000, 4001, 100000} {
			for _, part := range []string{"a", "\n", "\xff", " ", "\x00"} {
				cmd, dir, both := base, base, base
				cmd.Cmd, dir.Dir = strings.Repeat(part, n), strings.Repeat(part, n)
				both.Cmd, both.Dir = strings.Repeat(part, 60), strings.Repeat(part, n)
				check(fmt.Sprintf("a Cmd of %d bytes %q", n, part), cmd, n <= 60)
				check(fmt.Sprintf("a Dir of %d bytes %q", n, part), dir, n <= 60)
				check(fmt.Sprintf("a Dir of %d bytes %q behind a Cmd of 60", n, part), both, n <= 60)
			}
		}
		both := base
		both.Cmd, both.Dir = strings.Repeat("\u00e4", 30), strings.Repeat("\u4e2d", 20)
		check("60 bytes of fewer runes", both, true)
		both.Cmd += "x"
		check("61 bytes of fewer runes", both, false)
	}
	check("the zero value", impl.Pane{}, false)
}

func TestPaneOkOfEachLife(t *testing.T) {
	term := newTerm(t, 2, 2, 0)
	values := append(extremeInts(), -256, -255, -1, 0, 1, 2, 254, 255, 256, 257, 512, 999999, 1000000, 1000001)
	for _, life := range append(extremeInts(), -3, -1, 0, 1, 2, 3, 4, 5, 257, 1<<32+1, 1<<32+3) {
		for _, pid := range values {
			for _, code := range values {
				p := impl.Pane{Id: 1, Life: life, Pid: pid, Code: code, Term: term}
				want := life == impl.PaLive && pid >= 1 && pid <= 1000000 && code == 0 ||
					life == impl.PaDone && pid == 0 && code >= 0 && code <= 255 ||
					life == impl.PaWait && pid == 0 && code == 0
				if impl.PaneOk(p) != want {
					t.Fatalf("PaneOk is %v: Life %d, Pid %d, Code %d", !want, life, pid, code)
				}
			}
		}
	}
}

func TestPaneOkOfTerminals(t *testing.T) {
	for id := 1; id <= 3; id++ {
		for i, c := range goodChanges() {
			p := paneOf(id, impl.Term{P: validVps()[i%len(validVps())], S: changedScr(baseScr(), c.change)})
			if !impl.PaneOk(p) {
				t.Errorf("%s: PaneOk is false", c.what)
			}
		}
		for i, m := range invalidTerms() {
			if impl.PaneOk(paneOf(id, m)) {
				t.Errorf("PaneOk is true with the invalid terminal %d", i)
			}
		}
	}
}

// lookupState is not valid: its panes, windows and sessions come several times, and in no order.
func lookupState() impl.State {
	return impl.State{
		W: 14, H: 7,
		Panes: []impl.Pane{{Id: 5}, {Id: 3}, {Id: 5}, {Id: -1}, {Id: 3}, {Id: 0}, {Id: 1000001}},
		Wins: []impl.Win{
			{Id: 7, Tree: beside(4, lone(1), lone(1))},
			{Id: 3, Tree: beside(4, lone(2), lone(3))},
			{Id: 7, Tree: lone(1)},
			{Id: 0, Tree: beside(4, lone(3), lone(1))},
			{Id: 3, Tree: beside(4, lone(4), nil)},
			{Id: -1},
			{Id: 8, Tree: lone(4)},
		},
		Sess: []impl.Sess{
			{Name: "b", Wins: []int{3, 3, 7}},
			{Name: "a"},
			{Name: "b", Wins: []int{7, 0, -1}},
			{Name: "", Wins: []int{9}},
			{Name: "A b", Wins: []int{9, 8}},
		},
	}
}

func TestLookups(t *testing.T) {
	s := lookupState()
	byNumber := []struct {
		name string
		call func(s impl.State, n int) int
		want map[int]int
	}{
		{"PaneAt", impl.PaneAt, map[int]int{5: 0, 3: 1, -1: 3, 0: 5, 1000001: 6, 1: -1, 7: -1, math.MaxInt: -1, math.MinInt: -1}},
		{"WinAt", impl.WinAt, map[int]int{7: 0, 3: 1, 0: 3, -1: 5, 8: 6, 1: -1, 5: -1, math.MaxInt: -1, math.MinInt: -1}},
		{"WinOf", impl.WinOf, map[int]int{1: 2, 2: 1, 3: 1, 4: 6, 0: -1, 5: -1, -1: -1, 7: -1, math.MaxInt: -1, math.MinInt: -1}},
		{"SessOf", impl.SessOf, map[int]int{3: 0, 7: 0, 0: 2, -1: 2, 9: 3, 8: 4, 1: -1, 5: -1, math.MaxInt: -1, math.MinInt: -1}},
	}
	for _, c := range byNumber {
		for n, want := range c.want {
			if got := c.call(s, n); got != want {
				t.Errorf("%s of %d returns %d; want %d", c.name, n, got, want)
			}
			if got := c.call(impl.State{}, n); got != -1 {
				t.Errorf("%s of %d in an empty state returns %d", c.name, n, got)
			}
		}
	}
	for name, want := range map[string]int{"b": 0, "a": 1, "": 3, "A b": 4, "A": -1, "ab": -1, "a ": -1, "B": -1} {
		if got := impl.SessAt(s, name); got != want {
			t.Errorf("SessAt of %q returns %d; want %d", name, got, want)
		}
		if got := impl.SessAt(impl.State{}, name); got != -1 {
			t.Errorf("SessAt of %q in an empty state returns %d", name, got)
		}
	}
	checkState(t, "several of each", s, false)
	checkLookups(t, "a valid state", sampleState())
	checkLookups(t, "an empty state", impl.State{})
}

func TestLookupsInInvalidTrees(t *testing.T) {
	for _, c := range badTrees() {
		s := impl.State{W: 40, H: 40, Wins: []impl.Win{{Id: 1, Tree: c.nodes, Active: 1, Zoom: true}, {Id: 2, Tree: renumbered(crossTree(), 7, 1, 2, 17), Active: 1}}}
		for pane, place := range map[int][2]int{7: {4, 2}, 1: {35, 2}, 2: {4, 37}, 17: {35, 37}} {
			w, h := impl.Area(s, pane)
			if impl.WinOf(s, pane) != 1 || w != place[0] || h != place[1] {
				t.Errorf("%s: the pane %d is in %d, with the Area %d, %d", c.what, pane, impl.WinOf(s, pane), w, h)
			}
		}
		checkLookups(t, c.what, s)
	}
}

func TestArea(t *testing.T) {
	s := sampleState()
	zoomed := changedState(s, func(s *impl.State) { s.Wins[0].Zoom = true })
	resized := func(w, h int) impl.State {
		return changedState(s, func(s *impl.State) { s.W, s.H = w, h })
	}
	twice := changedState(s, func(s *impl.State) { s.Wins[3].Tree = below(2, lone(13), lone(3)) })
	stranger := changedState(s, func(s *impl.State) { s.Wins[3].Tree, s.Wins[3].Active = below(2, lone(13), lone(99)), 99 })
	known := []struct {
		what string
		s    impl.State
		pane int
		w, h int
	}{
		{"beside others", s, 2, 4, 7},
		{"above another", s, 3, 3, 2},
		{"active, but not zoomed", s, 5, 3, 4},
		{"the last one", s, 8, 5, 7},
		{"the active pane of a zoomed window", s, 6, 14, 7},
		{"another pane of a zoomed window", s, 7, 6, 7},
		{"alone", s, 10, 14, 7},
		{"below another", s, 12, 14, 3},
		{"a window", s, 1, 0, 0},
		{"no pane", s, 99, 0, 0},
		{"the pane 0", s, 0, 0, 0},
		{"the pane -1", s, -1, 0, 0},
		{"zoomed now", zoomed, 5, 14, 7},
		{"beside a zoomed pane", zoomed, 2, 4, 7},
		{"above a zoomed pane", zoomed, 3, 3, 2},
		{"without place", resized(5, 7), 2, 0, 0},
		{"active, and without place", resized(5, 7), 5, 0, 0},
		{"clipped", resized(5, 7), 7, 3, 7},
		{"zoomed, where each has a place", resized(5, 7), 6, 5, 7},
		{"zoomed, where none has a place", resized(2, 7), 6, 2, 7},
		{"without place beside a zoomed pane", resized(2, 7), 7, 0, 0},
		{"a row without place", resized(14, 2), 12, 0, 0},
		{"one cell", resized(1, 1), 10, 1, 1},
		{"no area", resized(0, 7), 10, 0, 0},
		{"too large an area", resized(121, 7), 10, 0, 0},
		{"more cells than any grid", resized(120, 120), 10, 120, 120},
		{"zoomed, more cells than any grid", resized(120, 120), 6, 120, 120},
		{"zoomed, no area", resized(0, 7), 6, 0, 7},
		{"zoomed, too large an area", resized(121, -3), 6, 121, -3},
		{"in two trees", twice, 3, 3, 2},
		{"in a tree alone", stranger, 99, 14, 4},
		{"in no tree", stranger, 12, 0, 0},
		{"no windows", impl.State{W: 14, H: 7, Panes: s.Panes}, 2, 0, 0},
	}
	for _, k := range known {
		if w, h := impl.Area(k.s, k.pane); w != k.w || h != k.h {
			t.Errorf("%s: the Area of %d is %d, %d; want %d, %d", k.what, k.pane, w, h, k.w, k.h)
		}
		checkLookups(t, k.what, k.s)
	}
}

type stateCase struct {
	what   string
	change func(s *impl.State)
}

// fit gives every terminal the size of its area again, so that nothing but the rest of a change can be wrong.
func fit(s *impl.State) { *s = modelFit(*s) }

func pane(s *impl.State, id int) *impl.Pane {
	return &s.Panes[slices.IndexFunc(s.Panes, func(p impl.Pane) bool { return p.Id == id })]
}

// addPane inserts a waiting pane of this size where its number belongs.
func addPane(s *impl.State, id int, w int, h int) {
	at, _ := slices.BinarySearchFunc(s.Panes, id, func(p impl.Pane, id int) int { return p.Id - id })
	s.Panes = slices.Insert(s.Panes, at, impl.Pane{Id: id, Life: impl.PaWait, Term: paneTerm(w, h, s.Limit, id)})
}

func removePane(s *impl.State, id int) {
	s.Panes = slices.DeleteFunc(s.Panes, func(p impl.Pane) bool { return p.Id == id })
}

func goodStateChanges() []stateCase {
	return []stateCase{
		{"nothing", func(s *impl.State) {}},
		{"the least Next", func(s *impl.State) { s.Next = 14 }},
		{"the greatest Next", func(s *impl.State) { s.Next = 1000000 }},
		{"the greatest Ids", func(s *impl.State) {
			s.Next = 1000000
			pane(s, 13).Id = 999999
			s.Wins[3].Tree = below(3, lone(999999), lone(12))
			s.Wins[3].Id, s.Sess[2] = 999998, impl.Sess{Name: "work", Wins: []int{999998}, Active: 999998}
		}},
		{"the size 1, 1", func(s *impl.State) {
			*s = stateOf(1, 1, 3, 20, s.Wins[2:3], []impl.Sess{{Name: "a", Wins: []int{9}, Active: 9}})
		}},
		{"the least size for the trees", func(s *impl.State) { s.W, s.H = 8, 3; fit(s) }},
		{"the greatest size", func(s *impl.State) { s.W, s.H = 120, 33; fit(s) }},
		{"the Limit 0", func(s *impl.State) { *s = stateOf(14, 7, 0, 20, s.Wins, s.Sess) }},
		{"the Limit MaxBack", func(s *impl.State) { *s = stateOf(14, 7, 100, 20, s.Wins, s.Sess) }},
		{"the least process", func(s *impl.State) { pane(s, 3).Pid = 1 }},
		{"the greatest process", func(s *impl.State) { pane(s, 12).Pid = 1000000 }},
		{"the number of a pane as a process", func(s *impl.State) { pane(s, 3).Pid = 3 }},
		{"the number of a window as a process", func(s *impl.State) { pane(s, 3).Pid = 4 }},
		{"the greatest exit code", func(s *impl.State) { pane(s, 7).Code = 255 }},
		{"the same exit code twice", func(s *impl.State) { pane(s, 7).Code = 13 }},
		{"a process with the number of an exit code", func(s *impl.State) { pane(s, 3).Pid, pane(s, 7).Code = 9, 9 }},
		{"the longest Cmd and Dir", func(s *impl.State) {
			pane(s, 2).Cmd, pane(s, 2).Dir = strings.Repeat("\n", 60), strings.Repeat("\xff", 60)
		}},
		{"no Cmd and no Dir", func(s *impl.State) { pane(s, 13).Cmd, pane(s, 13).Dir = "", "" }},
		{"another pane active", func(s *impl.State) { s.Wins[0].Active = 2 }},
		{"the last pane active", func(s *impl.State) { s.Wins[0].Active = 8 }},
		{"another pane zoomed", func(s *impl.State) { s.Wins[1].Active = 7; fit(s) }},
		{"no pane zoomed", func(s *impl.State) { s.Wins[1].Zoom = false; fit(s) }},
		{"more panes zoomed", func(s *impl.State) { s.Wins[0].Zoom, s.Wins[3].Zoom = true, true; fit(s) }},
		{"the only pane zoomed", func(s *impl.State) { s.Wins[2].Zoom = true }},
		{"all windows with one name", func(s *impl.State) {
			for i := range s.Wins {
				s.Wins[i].Name = "same"
			}
		}},
		{"a window and a session with one name", func(s *impl.State) { s.Wins[0].Name = "main" }},
		{"the longest names", func(s *impl.State) { s.Wins[0].Name, s.Sess[0].Name = "abcdefghijkl", "0123456789az" }},
		{"names that begin alike", func(s *impl.State) { s.Sess[0].Name, s.Sess[1].Name = "work2", "wor" }},
		{"another window active", func(s *impl.State) { s.Sess[0].Active = 9 }},
		{"ascending windows in a session", func(s *impl.State) { s.Sess[0].Wins = []int{1, 9} }},
		{"all windows in one session", func(s *impl.State) {
			s.Sess = []impl.Sess{{Name: "all", Wins: []int{4, 11, 1, 9}, Active: 11}}
		}},
		{"a session for each window", func(s *impl.State) {
			s.Sess[0] = impl.Sess{Name: "main", Wins: []int{1}, Active: 1}
			s.Sess = append(s.Sess, impl.Sess{Name: "a", Wins: []int{9}, Active: 9})
		}},
		{"sessions in another order", func(s *impl.State) { slices.Reverse(s.Sess) }},
		{"panes of a tree in another order", func(s *impl.State) { s.Wins[0].Tree = renumbered(sampleTree(), 5, 8, 3, 2); fit(s) }},
		{"a pane in another tree", func(s *impl.State) {
			s.Wins[0].Tree = renumbered(beside(4, lone(1), below(2, lone(2), lone(3))), 2, 5, 8)
			s.Wins[2].Tree = beside(6, lone(10), lone(3))
			fit(s)
		}},
		{"windows with each other's trees", func(s *impl.State) {
			s.Wins[0].Tree, s.Wins[3].Tree = s.Wins[3].Tree, s.Wins[0].Tree
			s.Wins[0].Active, s.Wins[3].Active = 13, 2
		}},
		{"a parser in the middle of a sequence", func(s *impl.State) { pane(s, 2).Term.P = csiVp(true, 1, 2) }},
		{"a First that does not fit", func(s *impl.State) { s.Wins[3].Tree[0].First = 120; fit(s) }},
		{"no panes, windows and sessions", func(s *impl.State) { s.Panes, s.Wins, s.Sess = nil, nil, nil }},
	}
}

func TestStateOkOfValidStates(t *testing.T) {
	for _, c := range goodStateChanges() {
		checkState(t, c.what, changedState(sampleState(), c.change), true)
	}
}

// TestStateOkOfValidPanes: each parser state and screen that is valid, in a pane of a valid state.
func TestStateOkOfValidPanes(t *testing.T) {
	for i, c := range goodChanges() {
		m := impl.Term{P: validVps()[i%len(validVps())], S: changedScr(baseScr(), c.change)}
		s := stateOf(m.S.W, m.S.H, m.S.Limit, 9, []impl.Win{{Id: 1, Name: "w", Tree: lone(2), Active: 2}}, []impl.Sess{{Name: "s", Wins: []int{1}, Active: 1}})
		s.Panes[0].Term = m
		checkState(t, c.what, s, true)
	}
}

// badNumbers change a size, a limit or Next, and what belongs to it, to a value out of range.
func badNumbers() []stateCase {
	var l []stateCase
	add := func(what string, change func(s *impl.State)) { l = append(l, stateCase{what, change}) }
	for _, n := range append(extremeInts(), -1, 0, 1000001) {
		if n != 1000000 {
			add(fmt.Sprint("the Next ", n), func(s *impl.State) { s.Next = n })
			add(fmt.Sprint("no panes and the Next ", n), func(s *impl.State) { *s = impl.State{W: 9, H: 5, Next: n} })
		}
	}
	for _, n := range append(extremeInts(), -1, 101, 102) {
		add(fmt.Sprint("the Limit ", n), func(s *impl.State) { s.Limit = n })
		add(fmt.Sprint("no panes and the Limit ", n), func(s *impl.State) { *s = impl.State{W: 9, H: 5, Limit: n, Next: 1} })
	}
	for _, size := range append(badSizes(), [2]int{7, 7}, [2]int{14, 2}) {
		add(fmt.Sprint("the size ", size), func(s *impl.State) { s.W, s.H = size[0], size[1]; fit(s) })
	}
	for _, size := range badSizes() {
		add(fmt.Sprint("no panes and the size ", size), func(s *impl.State) { *s = impl.State{W: size[0], H: size[1], Next: 1} })
	}
	return l
}

// badIds have an Id that is out of order or out of range, or that belongs to another, in the tree or the session too.
func badIds() []stateCase {
	l := []stateCase{
		{"Next as the greatest Id", func(s *impl.State) { s.Next = 13 }},
		{"Next as an Id in the middle", func(s *impl.State) { s.Next = 9 }},
		{"the Next 1", func(s *impl.State) { s.Next = 1 }},
		{"Next as the greatest Id, of a window", func(s *impl.State) {
			s.Wins[3].Id, s.Sess[2].Wins, s.Sess[2].Active = 15, []int{15}, 15
			s.Next = 15
		}},
		{"panes out of order", func(s *impl.State) { s.Panes[0], s.Panes[1] = s.Panes[1], s.Panes[0] }},
		{"the last panes out of order", func(s *impl.State) { s.Panes[7], s.Panes[8] = s.Panes[8], s.Panes[7] }},
		{"panes descending", func(s *impl.State) { slices.Reverse(s.Panes) }},
		{"windows out of order", func(s *impl.State) { s.Wins[0], s.Wins[1] = s.Wins[1], s.Wins[0] }},
		{"the last windows out of order", func(s *impl.State) { s.Wins[2], s.Wins[3] = s.Wins[3], s.Wins[2] }},
		{"windows descending", func(s *impl.State) { slices.Reverse(s.Wins) }},
		{"a pane twice", func(s *impl.State) { s.Panes = slices.Insert(s.Panes, 0, s.Panes[0]) }},
		{"a window twice", func(s *impl.State) { s.Wins = slices.Insert(s.Wins, 0, s.Wins[0]) }},
		{"two windows with one Id", func(s *impl.State) {
			s.Wins[3].Id = 9
			s.Sess = s.Sess[:2]
		}},
		{"a window and an empty one with one Id", func(s *impl.State) { s.Wins = append(s.Wins, impl.Win{Id: 11, Name: "w"}) }},
	}
	for _, n := range append(extremeInts(), -1, 0, 20, 21) {
		if n == 1000000 {
			continue
		}
		l = append(l, stateCase{fmt.Sprint("a window with the Id ", n), func(s *impl.State) {
			s.Wins[3].Id, s.Sess[2].Wins, s.Sess[2].Active = n, []int{n}, n
			slices.SortFunc(s.Wins, func(a, b impl.Win) int { return cmp.Compare(a.Id, b.Id) })
		}}, stateCase{fmt.Sprint("a pane with the Id ", n), func(s *impl.State) {
			pane(s, 13).Id = n
			s.Wins[3].Tree = below(3, lone(n), lone(12))
			slices.SortFunc(s.Panes, func(a, b impl.Pane) int { return cmp.Compare(a.Id, b.Id) })
		}})
	}
	for _, at := range []int{0, 2, 3} {
		l = append(l, stateCase{fmt.Sprint("a pane with the Id of the window ", at), func(s *impl.State) {
			id := s.Wins[at].Id
			addPane(s, id, 3, 7)
			s.Wins[2].Tree = beside(10, lone(10), lone(id))
			fit(s)
		}})
	}
	return l
}

// badPanes have one pane, process or terminal that does not fit to a state.
func badPanes() []stateCase {
	l := []stateCase{
		{"two running panes with one Pid", func(s *impl.State) { pane(s, 12).Pid = pane(s, 3).Pid }},
		{"neighbors with one Pid", func(s *impl.State) {
			*pane(s, 2) = impl.Pane{Id: 2, Life: impl.PaLive, Pid: 7, Term: pane(s, 2).Term}
			pane(s, 3).Pid = 7
		}},
		{"the last and the first pane with one Pid", func(s *impl.State) {
			pane(s, 2).Life, pane(s, 2).Pid = impl.PaLive, 1000000
			pane(s, 13).Life, pane(s, 13).Pid, pane(s, 13).Code = impl.PaLive, 1000000, 0
		}},
		{"a running pane without process", func(s *impl.State) { pane(s, 3).Pid = 0 }},
		{"a running pane with a code", func(s *impl.State) { pane(s, 3).Code = 1 }},
		{"a finished pane with a process", func(s *impl.State) { pane(s, 13).Pid = 1 }},
		{"a finished pane with the code 256", func(s *impl.State) { pane(s, 13).Code = 256 }},
		{"a waiting pane with a code", func(s *impl.State) { pane(s, 2).Code = 1 }},
		{"a waiting pane with a process", func(s *impl.State) { pane(s, 8).Pid = 1 }},
		{"no Life", func(s *impl.State) { pane(s, 8).Life = 0 }},
		{"another Life", func(s *impl.State) { pane(s, 8).Life = 4 }},
		{"a Cmd that is too long", func(s *impl.State) { pane(s, 13).Cmd = strings.Repeat("a", 61) }},
		{"a Dir that is too long", func(s *impl.State) { pane(s, 2).Dir = strings.Repeat("a", 61) }},
		{"a pane in no tree", func(s *impl.State) { addPane(s, 6+9, 14, 7) }},
		{"a pane that its tree has lost", func(s *impl.State) { s.Wins[3].Tree = lone(12); fit(s) }},
		{"a pane in two trees", func(s *impl.State) { s.Wins[3].Tree = below(3, lone(13), below(1, lone(12), lone(10))); fit(s) }},
		{"a zoomed pane in two trees", func(s *impl.State) { s.Wins[3].Tree = below(3, lone(13), below(1, lone(12), lone(6))); fit(s) }},
		{"two windows with one tree", func(s *impl.State) {
			s.Wins[3].Tree, s.Wins[3].Active = lone(10), 10
			removePane(s, 12)
			removePane(s, 13)
		}},
		{"a tree with a pane that does not exist", func(s *impl.State) { s.Wins[3].Tree = below(3, lone(13), below(1, lone(12), lone(15))); fit(s) }},
		{"a tree with a pane that does not exist any more", func(s *impl.State) { removePane(s, 13) }},
		{"a tree with a window", func(s *impl.State) { s.Wins[3].Tree = below(3, lone(13), below(1, lone(12), lone(9))); fit(s) }},
		{"a tree with the window itself", func(s *impl.State) { s.Wins[2].Tree = below(3, lone(10), lone(9)); fit(s) }},
		{"terminals with another Limit", func(s *impl.State) { s.Limit = 4 }},
		{"the Limit 0", func(s *impl.State) { s.Limit = 0 }},
		{"zoomed, but not resized", func(s *impl.State) { s.Wins[0].Zoom = true }},
		{"not zoomed, but not resized", func(s *impl.State) { s.Wins[1].Zoom = false }},
		{"another pane zoomed, but not resized", func(s *impl.State) { s.Wins[1].Active = 7 }},
		{"another First, but not resized", func(s *impl.State) { s.Wins[0].Tree[0].First = 5 }},
		{"another column, but not resized", func(s *impl.State) { s.W++ }},
		{"another row, but not resized", func(s *impl.State) { s.H-- }},
	}
	for _, id := range []int{2, 5, 6, 7, 10, 13} {
		what := fmt.Sprintf("the pane %d: ", id)
		resize := func(dw, dh int) func(s *impl.State) {
			return func(s *impl.State) {
				term := &pane(s, id).Term
				term.S, _ = modelSized(term.S, term.S.W+dw, term.S.H+dh)
			}
		}
		l = append(l,
			stateCase{what + "a column more", resize(1, 0)},
			stateCase{what + "a column less", resize(-1, 0)},
			stateCase{what + "a row more", resize(0, 1)},
			stateCase{what + "a row less", resize(0, -1)},
			stateCase{what + "a greater Limit", func(s *impl.State) { pane(s, id).Term.S.Limit = 4 }},
			stateCase{what + "a smaller Limit", func(s *impl.State) {
				pane(s, id).Term.S.Limit, pane(s, id).Term.S.Back = 2, nil
			}},
			stateCase{what + "no terminal", func(s *impl.State) { pane(s, id).Term = impl.Term{} }},
			stateCase{what + "a bad parser", func(s *impl.State) { pane(s, id).Term.P = impl.Vp{Mark: true} }},
			stateCase{what + "a bad cell", func(s *impl.State) { pane(s, id).Term.S.Alt.Cells[1].R = 31 }},
			stateCase{what + "a bad cursor", func(s *impl.State) { pane(s, id).Term.S.SaveX = 14 }},
		)
	}
	return l
}

// badWins have one window that does not fit to a state.
func badWins() []stateCase {
	l := []stateCase{
		{"a window without panes", func(s *impl.State) {
			s.Wins = append(s.Wins, impl.Win{Id: 14, Name: "w"})
			s.Sess[2].Wins = []int{11, 14}
		}},
		{"a tree behind which a node follows", func(s *impl.State) { s.Wins[2].Tree = append(s.Wins[2].Tree, impl.Node{}) }},
		{"a split that is too narrow", func(s *impl.State) { s.W = 7; fit(s) }},
		{"a split that is too low", func(s *impl.State) { s.H = 2; fit(s) }},
		{"a split that is too narrow, behind a zoomed pane", func(s *impl.State) {
			s.Wins[1].Tree, s.Wins[1].Zoom = chain(8, false, false, 1), true
			s.Wins[1].Tree = renumbered(s.Wins[1].Tree, 6, 7, 14, 15, 16, 17, 18, 19)
			for id := 14; id <= 19; id++ {
				addPane(s, id, 1, 1)
			}
			fit(s)
		}},
		{"another window's pane active", func(s *impl.State) { s.Wins[0].Active = 10 }},
		{"an unknown pane active", func(s *impl.State) { s.Wins[2].Active = 19 }},
		{"a window active in a window", func(s *impl.State) { s.Wins[2].Active = 9 }},
		{"no pane active", func(s *impl.State) { s.Wins[3].Active = 0 }},
		{"the pane -1 active", func(s *impl.State) { s.Wins[3].Active = -1 }},
		{"another window's pane zoomed", func(s *impl.State) { s.Wins[1].Active = 10; fit(s) }},
		{"no pane zoomed, but Zoom", func(s *impl.State) { s.Wins[1].Active = 0; fit(s) }},
		{"two windows without sessions", func(s *impl.State) { s.Sess = s.Sess[:1] }},
		{"no sessions", func(s *impl.State) { s.Sess = nil }},
		{"nothing but windows", func(s *impl.State) { s.Panes, s.Sess = nil, nil }},
		{"nothing but sessions", func(s *impl.State) { s.Panes, s.Wins = nil, nil }},
		{"nothing but panes", func(s *impl.State) { s.Wins, s.Sess = nil, nil }},
		{"no panes", func(s *impl.State) { s.Panes = nil }},
		{"no windows", func(s *impl.State) { s.Wins = nil }},
	}
	for _, name := range badNames() {
		l = append(l,
			stateCase{fmt.Sprintf("a window with the name %q", name), func(s *impl.State) { s.Wins[0].Name = name }},
			stateCase{fmt.Sprintf("the last window with the name %q", name), func(s *impl.State) { s.Wins[3].Name = name }},
			stateCase{fmt.Sprintf("a session with the name %q", name), func(s *impl.State) { s.Sess[0].Name = name }},
			stateCase{fmt.Sprintf("the last session with the name %q", name), func(s *impl.State) { s.Sess[2].Name = name }},
		)
	}
	for _, c := range badTrees() {
		l = append(l,
			stateCase{"a bad tree: " + c.what, func(s *impl.State) {
				s.Wins[2].Tree = slices.Clone(c.nodes)
				fit(s)
			}},
			stateCase{"nothing but a bad tree: " + c.what, func(s *impl.State) {
				wins := []impl.Win{{Id: 1000, Name: "w", Tree: slices.Clone(c.nodes), Active: 1, Zoom: true}}
				*s = stateOf(100, 40, 0, 2000, wins, []impl.Sess{{Name: "s", Wins: []int{1000}, Active: 1000}})
			}},
		)
	}
	return l
}

func badNames() []string {
	return []string{"", "abcdefghijklm", "A", "aB", "a b", " a", "a ", "-", "a.b", "\n", "a\n", "\x00", "\u00e4", "a_", strings.Repeat("a", 4000)}
}

// badSessions have one session that does not fit to a state.
func badSessions() []stateCase {
	return []stateCase{
		{"two sessions with one name", func(s *impl.State) { s.Sess[1].Name = "main" }},
		{"the first and the last session with one name", func(s *impl.State) { s.Sess[2].Name = "main" }},
		{"a window in no session", func(s *impl.State) { s.Sess[0].Wins = []int{1} }},
		{"the last window in no session", func(s *impl.State) { s.Sess = s.Sess[:2] }},
		{"a window in two sessions", func(s *impl.State) { s.Sess[1].Wins = []int{4, 9} }},
		{"all windows of a session in another too", func(s *impl.State) { s.Sess[1].Wins = []int{1, 9, 4} }},
		{"two sessions of one window", func(s *impl.State) { s.Sess = append(s.Sess, impl.Sess{Name: "a", Wins: []int{11}, Active: 11}) }},
		{"a window twice in one session", func(s *impl.State) { s.Sess[0].Wins = []int{9, 1, 9} }},
		{"the only window twice in one session", func(s *impl.State) { s.Sess[1].Wins = []int{4, 4} }},
		{"a session with an unknown window", func(s *impl.State) { s.Sess[0].Wins = []int{9, 1, 15} }},
		{"a session with the window 0", func(s *impl.State) { s.Sess[0].Wins = []int{0, 9, 1} }},
		{"a session with the window -1", func(s *impl.State) { s.Sess[0].Wins = []int{-1, 9, 1} }},
		{"a session with a pane", func(s *impl.State) { s.Sess[0].Wins = []int{9, 1, 10} }},
		{"a session with a pane instead of a window", func(s *impl.State) { s.Sess[0].Wins = []int{10, 1} }},
		{"an unknown window active", func(s *impl.State) { s.Sess[0].Active = 15 }},
		{"an unknown window active, and there", func(s *impl.State) { s.Sess[0].Wins, s.Sess[0].Active = []int{9, 1, 15}, 15 }},
		{"a session of an unknown window", func(s *impl.State) {
			s.Sess = append(s.Sess, impl.Sess{Name: "a", Wins: []int{15}, Active: 15})
		}},
		{"another session's window active", func(s *impl.State) { s.Sess[0].Active = 4 }},
		{"a pane active in a session", func(s *impl.State) { s.Sess[0].Active = 10 }},
		{"no window active", func(s *impl.State) { s.Sess[0].Active = 0 }},
		{"a session without windows", func(s *impl.State) { s.Sess = append(s.Sess, impl.Sess{Name: "a"}) }},
		{"a session without windows, but one active", func(s *impl.State) { s.Sess = append(s.Sess, impl.Sess{Name: "a", Active: 11}) }},
		{"a session without windows first", func(s *impl.State) { s.Sess = slices.Insert(s.Sess, 0, impl.Sess{Name: "a"}) }},
		{"nothing but a session without windows", func(s *impl.State) { *s = impl.State{W: 9, H: 5, Next: 1, Sess: []impl.Sess{{Name: "a"}}} }},
		{"a session that is nothing", func(s *impl.State) { s.Sess = append(s.Sess, impl.Sess{}) }},
		{"very many windows in a session", func(s *impl.State) { s.Sess[0].Wins = slices.Repeat([]int{9, 1}, 100000) }},
	}
}

func badStateChanges() []stateCase {
	return slices.Concat(badNumbers(), badIds(), badPanes(), badWins(), badSessions())
}

func TestStateOkOfInvalidStates(t *testing.T) {
	for _, c := range badStateChanges() {
		checkState(t, c.what, changedState(sampleState(), c.change), false)
	}
	checkState(t, "the zero value", impl.State{}, false)
}

func TestStateOkOfEmptyStates(t *testing.T) {
	for _, size := range [][2]int{{1, 1}, {120, 1}, {1, 120}, {120, 33}, {33, 120}, {40, 100}, {100, 40}, {80, 24}} {
		for _, limit := range []int{0, 1, 99, 100} {
			for _, next := range []int{1, 2, 999999, 1000000} {
				s := impl.State{W: size[0], H: size[1], Limit: limit, Next: next}
				checkState(t, "an empty state", s, true)
				s.Panes, s.Wins, s.Sess = []impl.Pane{}, []impl.Win{}, []impl.Sess{}
				checkState(t, "an empty state with slices", s, true)
			}
		}
	}
}

func TestStateOkOfTheGreatestNumbers(t *testing.T) {
	ones := func(n int) []int { return slices.Repeat([]int{1}, n) }
	known := []struct {
		what        string
		panes, wins []int
		want        bool
	}{
		{"MaxPanes panes in two windows", []int{16, 8}, []int{2}, true},
		{"one pane more in two windows", []int{16, 9}, []int{2}, false},
		{"one pane more in the first of two windows", []int{15, 10}, []int{1, 1}, false},
		{"MaxPanes panes in three windows", []int{8, 8, 8}, []int{1, 2}, true},
		{"MaxWins windows in one session", ones(12), []int{12}, true},
		{"one window more in one session", ones(13), []int{13}, false},
		{"one window more in two sessions", ones(13), []int{12, 1}, false},
		{"MaxSess sessions", ones(8), ones(8), true},
		{"one session more", ones(9), ones(9), false},
		{"MaxPanes panes, MaxWins windows and MaxSess sessions", slices.Repeat([]int{2}, 12), []int{1, 2, 1, 2, 1, 2, 1, 2}, true},
		{"one pane more, MaxWins windows and MaxSess sessions", slices.Concat([]int{3}, slices.Repeat([]int{2}, 11)), []int{1, 2, 1, 2, 1, 2, 1, 2}, false},
		{"MaxPanes panes, one window more and MaxSess sessions", slices.Concat(ones(2), slices.Repeat([]int{2}, 11)), []int{2, 2, 1, 2, 1, 2, 1, 2}, false},
		{"MaxPanes panes, MaxWins windows and one session more", slices.Repeat([]int{2}, 12), []int{1, 2, 1, 2, 1, 2, 1, 1, 1}, false},
		{"very many panes, windows and sessions", ones(60), ones(60), false},
	}
	for _, k := range known {
		checkState(t, k.what, countedState(k.panes, k.wins), k.want)
	}
}

func checkStateNew(t *testing.T, w int, h int, limit int) {
	t.Helper()
	s, ok := impl.StateNew(w, h, limit)
	want := impl.State{}
	wantOk := modelSize(w, h) && limit >= 0 && limit <= 100
	if wantOk {
		want = impl.State{W: w, H: h, Limit: limit, Next: 1}
	}
	what := fmt.Sprintf("StateNew(%d, %d, %d)", w, h, limit)
	if ok != wantOk || impl.StateOk(s) != wantOk {
		t.Errorf("%s returns %v, and StateOk of it is %v; want %v", what, ok, impl.StateOk(s), wantOk)
	}
	wantState(t, what, s, want)
}

func TestStateNew(t *testing.T) {
	sizes := append(badSizes(), smallSizes()...)
	sizes = append(sizes, [2]int{80, 25}, [2]int{120, 33}, [2]int{33, 120}, [2]int{100, 40}, [2]int{40, 100}, [2]int{120, 1}, [2]int{1, 120})
	for _, size := range sizes {
		for _, limit := range []int{-1, 0, 1, 99, 100, 101, math.MinInt, math.MaxInt} {
			checkStateNew(t, size[0], size[1], limit)
		}
	}
	for _, n := range append(extremeInts(), -1, 0, 1, 2, 33, 34, 99, 100, 101, 119, 120, 121) {
		checkStateNew(t, n, 5, 3)
		checkStateNew(t, 5, n, 3)
		checkStateNew(t, 5, 5, n)
		checkStateNew(t, n, n, n)
	}
}

// TestFitKeepsTerminalsOfTheRightSize: they keep all that TermSize would reset.
func TestFitKeepsTerminalsOfTheRightSize(t *testing.T) {
	s := sampleState()
	for i := range s.Panes {
		x := &s.Panes[i].Term.S
		x.X, x.Wrap, x.Tabs = x.W-1, true, []int{0}
		if x.H > 2 {
			x.Top, x.Bot = 1, 2
		}
	}
	if !impl.StateOk(s) {
		t.Fatal("the state is not valid")
	}
	wantState(t, "terminals that fit", impl.Fit(s), s)
	for i, p := range s.Panes {
		if sized, _ := impl.TermSize(p.Term, p.Term.S.W, p.Term.S.H); equalTerms(sized, p.Term) {
			t.Errorf("the terminal %d would not show whether it is resized", i)
		}
	}
	broken := deepState(s)
	broken.Panes[0].Term.P = impl.Vp{State: 9}
	broken.Panes[1].Term.S.Main.Cells = nil
	broken.Panes[2].Term.S.X = -1
	wantState(t, "terminals of the right size that are not valid", impl.Fit(broken), broken)
}

func TestFitKnown(t *testing.T) {
	s := sampleState()
	s.W, s.H = 21, 6
	fitted := impl.Fit(s)
	sizes := map[int][2]int{2: {4, 6}, 3: {3, 2}, 5: {3, 3}, 8: {12, 6}, 7: {6, 6}, 6: {21, 6}, 10: {21, 6}, 13: {21, 3}, 12: {21, 2}}
	for i, p := range s.Panes {
		got := fitted.Panes[i]
		if want := sizes[p.Id]; got.Term.S.W != want[0] || got.Term.S.H != want[1] {
			t.Errorf("the terminal of %d has the size %d, %d; want %v", p.Id, got.Term.S.W, got.Term.S.H, want)
		}
		want, _ := impl.TermSize(p.Term, sizes[p.Id][0], sizes[p.Id][1])
		if p.Id == 3 {
			want = p.Term
		}
		wantTerm(t, fmt.Sprint("the terminal of ", p.Id), got.Term, want)
	}
	if !impl.StateOk(fitted) {
		t.Error("the fitted state is not valid")
	}
	wantState(t, "Fit of Fit", impl.Fit(fitted), fitted)
}

// TestFitWhereTermSizeFails: what cannot be resized is left as it is, and the rest is resized.
func TestFitWhereTermSizeFails(t *testing.T) {
	cases := []stateCase{
		{"no pane has a window", func(s *impl.State) { s.Wins = nil }},
		{"a pane has no window", func(s *impl.State) { s.Wins[3].Tree = lone(13) }},
		{"panes have no place", func(s *impl.State) { s.W = 7 }},
		{"only a zoomed pane and a single one have an area", func(s *impl.State) { s.W, s.H = 2, 2 }},
		{"no size", func(s *impl.State) { s.W, s.H = 0, 0 }},
		{"a size that no grid has", func(s *impl.State) { s.W, s.H = 120, 120 }},
		{"a size that no area has", func(s *impl.State) { s.W, s.H = 121, 33 }},
		{"a negative size", func(s *impl.State) { s.W, s.H = -14, -7 }},
		{"an extreme size", func(s *impl.State) { s.W, s.H = math.MaxInt, math.MinInt }},
		{"a bad tree", func(s *impl.State) { s.W, s.Wins[0].Tree = 20, s.Wins[0].Tree[:4] }},
		{"a bad parser", func(s *impl.State) { s.W, s.Panes[0].Term.P = 20, impl.Vp{State: 9, Args: []int{1}, Part: []byte{2}} }},
		{"a bad cell", func(s *impl.State) { s.H, s.Panes[8].Term.S.Alt.Cells[3].R = 8, 0 }},
		{"a bad scrollback", func(s *impl.State) { s.H, s.Panes[3].Term.S.Back = 8, []impl.Row{{}, {}} }},
		{"no terminals", func(s *impl.State) {
			for i := range s.Panes {
				s.Panes[i].Term = impl.Term{}
			}
		}},
		{"another Id", func(s *impl.State) { s.H, s.Panes[2].Id = 8, -5 }},
		{"two panes with one Id", func(s *impl.State) { s.H, s.Panes[2].Id = 8, 2 }},
		{"two windows with one Id", func(s *impl.State) { s.H, s.Wins[2].Id = 8, 1 }},
		{"nothing else is valid", func(s *impl.State) {
			s.H, s.Limit, s.Next, s.Sess = 8, -1, 0, []impl.Sess{{}}
			for i := range s.Panes {
				s.Panes[i].Life, s.Panes[i].Cmd = -1, strings.Repeat("x", 100)
			}
		}},
	}
	for _, c := range cases {
		checkState(t, c.what, changedState(sampleState(), c.change), false)
	}
	for _, c := range cases[:7] {
		s := changedState(sampleState(), c.change)
		if fitted := impl.Fit(s); impl.StateOk(fitted) {
			t.Errorf("%s: the fitted state is valid", c.what)
		}
	}
	lost := changedState(sampleState(), func(s *impl.State) { s.Wins = nil })
	wantState(t, "panes without windows", impl.Fit(lost), lost)
	wantState(t, "the zero value", impl.Fit(impl.State{}), impl.State{})
}

func TestLost(t *testing.T) {
	s := sampleState()
	lost := impl.Lost(s)
	for i, p := range s.Panes {
		got := lost.Panes[i]
		want := p
		if p.Id == 3 || p.Id == 6 || p.Id == 12 {
			want.Life, want.Pid = impl.PaWait, 0
		}
		if !equalPanes(got, want) {
			t.Errorf("the pane %d has the Life %d, the Code %d and the Pid %d", p.Id, got.Life, got.Code, got.Pid)
		}
	}
	lost.Panes, s.Panes = nil, nil
	wantState(t, "without panes", lost, s)
}

func TestLostOfEachLife(t *testing.T) {
	for life := 1; life <= 3; life++ {
		s := sampleState()
		for i := range s.Panes {
			p := &s.Panes[i]
			p.Life, p.Pid, p.Code = life, 0, 0
			switch life {
			case impl.PaLive:
				p.Pid = 1000000 - i
			case impl.PaDone:
				p.Code = 255 - i/2
			}
		}
		checkState(t, fmt.Sprint("all panes of the Life ", life), s, true)
		for i, p := range impl.Lost(s).Panes {
			if wantLife := map[int]int{1: 3, 2: 2, 3: 3}[life]; p.Life != wantLife || p.Pid != 0 || p.Code != s.Panes[i].Code {
				t.Errorf("from the Life %d: the Life %d, the Code %d and the Pid %d", life, p.Life, p.Code, p.Pid)
			}
		}
	}
	wantState(t, "an invalid state", impl.Lost(changedState(sampleState(), func(s *impl.State) { s.Next = 0 })), impl.State{})
}

// randomState is valid, unless it has more panes than MaxPanes.
func randomState(r *rand.Rand) impl.State {
	w, h := 1+r.Intn(24), 1+r.Intn(10)
	next := 1 + r.Intn(3)
	var wins []impl.Win
	var free []int
	for range r.Intn(7) {
		win := impl.Win{Id: next, Name: []string{"a", "b", "sh9", "abcdefghijkl"}[r.Intn(4)], Zoom: r.Intn(3) == 0}
		tree := randomTree(r, 1+r.Intn(1+r.Intn(6)))
		if _, ok := modelPlaces(tree, w, h); !ok {
			tree = lone(1)
		}
		var panes []int
		for range modelLeaves(tree) {
			next += 1 + r.Intn(2)
			panes = append(panes, next)
		}
		r.Shuffle(len(panes), func(i, j int) { panes[i], panes[j] = panes[j], panes[i] })
		next += 1 + r.Intn(3)
		win.Tree, win.Active = renumbered(tree, panes...), panes[r.Intn(len(panes))]
		wins, free = append(wins, win), append(free, win.Id)
	}
	r.Shuffle(len(free), func(i, j int) { free[i], free[j] = free[j], free[i] })
	var sess []impl.Sess
	for len(free) > 0 {
		n := 1 + r.Intn(len(free))
		sess = append(sess, impl.Sess{Name: fmt.Sprint("s", len(free)), Wins: slices.Clone(free[:n]), Active: free[r.Intn(n)]})
		free = free[n:]
	}
	return stateOf(w, h, r.Intn(4), next, wins, sess)
}

func someNumber(r *rand.Rand, s impl.State) int {
	l := numbersAround(s)
	return l[r.Intn(len(l))]
}

// moved exchanges, repeats or removes an element of a list.
func moved[T any](r *rand.Rand, l []T) []T {
	if len(l) == 0 {
		return l
	}
	at, other := r.Intn(len(l)), r.Intn(len(l))
	switch r.Intn(3) {
	case 0:
		l[at], l[other] = l[other], l[at]
	case 1:
		return slices.Insert(l, at, l[other])
	case 2:
		return slices.Delete(l, at, at+1)
	}
	return l
}

func breakPane(r *rand.Rand, s *impl.State) {
	if len(s.Panes) == 0 {
		return
	}
	p := &s.Panes[r.Intn(len(s.Panes))]
	switch r.Intn(8) {
	case 0:
		p.Id = someNumber(r, *s)
	case 1:
		p.Life = r.Intn(5)
	case 2:
		p.Pid = []int{0, 1, 5003, 5006, 5009}[r.Intn(5)]
	case 3:
		p.Code = []int{0, 1, 255, 256}[r.Intn(4)]
	case 4:
		p.Cmd, p.Dir = strings.Repeat("c", 59+r.Intn(3)), strings.Repeat("d", 60+r.Intn(2))
	case 5:
		p.Term.S, _ = modelSized(p.Term.S, 1+r.Intn(24), 1+r.Intn(10))
	case 6:
		p.Term.S.Limit += r.Intn(3) - 1
	case 7:
		p.Term = randomTerm(r)
	}
}

func breakWin(r *rand.Rand, s *impl.State) {
	if len(s.Wins) == 0 {
		return
	}
	w := &s.Wins[r.Intn(len(s.Wins))]
	switch r.Intn(6) {
	case 0:
		w.Id = someNumber(r, *s)
	case 1:
		w.Name = []string{"b", "", "B", "same", "abcdefghijklm"}[r.Intn(5)]
	case 2:
		w.Active = someNumber(r, *s)
	case 3:
		w.Zoom = !w.Zoom
	case 4:
		w.Tree = brokenNodes(r, w.Tree)
	case 5:
		at := r.Intn(len(w.Tree) + 1)
		w.Tree = slices.Insert(slices.Clone(w.Tree), at, impl.Node{First: 1 + r.Intn(5)}, impl.Node{Pane: someNumber(r, *s)})
	}
}

func breakSess(r *rand.Rand, s *impl.State) {
	if len(s.Sess) == 0 {
		return
	}
	x := &s.Sess[r.Intn(len(s.Sess))]
	switch r.Intn(5) {
	case 0:
		x.Name = []string{"s1", "s2", "", "S", "new", "a-b"}[r.Intn(6)]
	case 1:
		x.Active = someNumber(r, *s)
	case 2:
		x.Wins = moved(r, x.Wins)
	case 3:
		x.Wins = append(x.Wins, someNumber(r, *s))
	case 4:
		if len(x.Wins) > 0 {
			x.Wins[r.Intn(len(x.Wins))] = someNumber(r, *s)
		}
	}
}

// brokenState changes a few things, which may leave a valid state.
func brokenState(r *rand.Rand, s impl.State) impl.State {
	s = deepState(s)
	for range 1 + r.Intn(2) {
		switch r.Intn(8) {
		case 0:
			numbers := []*int{&s.W, &s.H, &s.Limit, &s.Next}
			*numbers[r.Intn(4)] += r.Intn(7) - 3
		case 1, 2:
			breakPane(r, &s)
		case 3, 4:
			breakWin(r, &s)
		case 5, 6:
			breakSess(r, &s)
		case 7:
			switch r.Intn(3) {
			case 0:
				s.Panes = moved(r, s.Panes)
			case 1:
				s.Wins = moved(r, s.Wins)
			case 2:
				s.Sess = moved(r, s.Sess)
			}
		}
	}
	if r.Intn(2) == 0 {
		fit(&s)
	}
	return deepState(s)
}

func TestRandomStates(t *testing.T) {
	r := rand.New(rand.NewSource(15))
	valid, broken := 0, 0
	for range 400 {
		s := randomState(r)
		checkState(t, "a random state", s, len(s.Panes) <= 24)
		for range 12 {
			other := brokenState(r, s)
			ok := modelStateOk(other)
			checkState(t, "a random state that is changed", other, ok)
			if ok {
				valid++
			} else {
				broken++
			}
		}
		if t.Failed() {
			t.FailNow()
		}
	}
	if valid < 500 || broken < 2000 {
		t.Errorf("%d of the changed states are valid, and %d are not", valid, broken)
	}
}

// changeLayout does to one window what operations do to it, and says whether that is possible.
func changeLayout(r *rand.Rand, s *impl.State) bool {
	if len(s.Wins) == 0 {
		return false
	}
	w := &s.Wins[r.Intn(len(s.Wins))]
	leaves := modelLeaves(w.Tree)
	id, other := leaves[r.Intn(len(leaves))], leaves[r.Intn(len(leaves))]
	tree, ok := w.Tree, true
	switch r.Intn(7) {
	case 0:
		w.Zoom = !w.Zoom
	case 1:
		w.Active = id
	case 2:
		tree, ok = impl.Swap(w.Tree, id, other)
	case 3:
		tree, ok = impl.Grow(w.Tree, id, r.Intn(2) == 0, r.Intn(9)-4, s.W, s.H)
	case 4:
		if tree, ok = impl.Split(w.Tree, id, s.Next, r.Intn(2) == 0, s.W, s.H); ok {
			addPane(s, s.Next, 1, 1)
			w.Active, w.Zoom = s.Next, false
			s.Next++
		}
	case 5:
		if tree, ok = impl.Cut(w.Tree, id); ok {
			w.Active, w.Zoom = impl.After(w.Tree, id), false
			removePane(s, id)
		}
	case 6:
		s.W, s.H = 1+r.Intn(30), 1+r.Intn(12)
		ok = count(s.Wins, func(w impl.Win) bool { _, placed := modelPlaces(w.Tree, s.W, s.H); return placed }) == len(s.Wins)
	}
	w.Tree = tree
	return ok && len(s.Panes) <= 24
}

// TestFittedLayoutsAreValid is the part of P4 about layouts: whatever is changed in the trees, Fit makes a valid state of it, and changes only terminals.
func TestFittedLayoutsAreValid(t *testing.T) {
	r := rand.New(rand.NewSource(16))
	changes := 0
	for range 200 {
		s := randomState(r)
		for range 20 {
			next := deepState(s)
			if !changeLayout(r, &next) {
				continue
			}
			fitted := impl.Fit(next)
			checkState(t, "a changed layout", next, modelStateOk(next))
			checkState(t, "a fitted layout", fitted, len(fitted.Panes) <= 24)
			for i := range fitted.Panes {
				next.Panes[i].Term = fitted.Panes[i].Term
			}
			wantState(t, "all but the terminals", fitted, next)
			s = fitted
			changes++
		}
		if t.Failed() {
			t.FailNow()
		}
	}
	if changes < 1000 {
		t.Errorf("only %d layouts were changed", changes)
	}
}

// TestZoomingTwicePreservesTheLayout: what was zoomed has its old size again.
func TestZoomingTwicePreservesTheLayout(t *testing.T) {
	r := rand.New(rand.NewSource(17))
	for range 100 {
		s := randomState(r)
		for i := range s.Wins {
			once := changedState(s, func(s *impl.State) { s.Wins[i].Zoom = !s.Wins[i].Zoom })
			twice := changedState(impl.Fit(once), func(s *impl.State) { s.Wins[i].Zoom = !s.Wins[i].Zoom })
			back := impl.Fit(twice)
			for k, p := range back.Panes {
				if before := s.Panes[k].Term.S; p.Term.S.W != before.W || p.Term.S.H != before.H {
					t.Errorf("the pane %d has the size %d, %d; before it was %d, %d", p.Id, p.Term.S.W, p.Term.S.H, before.W, before.H)
				}
			}
			if len(s.Panes) <= 24 && !impl.StateOk(back) {
				t.Errorf("the state is not valid: %s", stateText(back))
			}
		}
	}
}

// spareState returns a copy of the state with spare capacity behind every slice, filled with something else.
func spareState(s impl.State) impl.State {
	s = deepState(s)
	for i := range s.Panes {
		s.Panes[i].Term = spareTerm(s.Panes[i].Term)
	}
	for i := range s.Wins {
		s.Wins[i].Tree, _ = spareNodes(s.Wins[i].Tree)
	}
	for i, x := range s.Sess {
		s.Sess[i].Wins = append(x.Wins, slices.Repeat([]int{77}, 20)...)[:len(x.Wins)]
	}
	s.Panes = append(s.Panes, slices.Repeat([]impl.Pane{paneOf(77, sampleTerm())}, 5)...)[:len(s.Panes)]
	s.Wins = append(s.Wins, slices.Repeat([]impl.Win{{Id: 77, Tree: lone(77)}}, 5)...)[:len(s.Wins)]
	s.Sess = append(s.Sess, slices.Repeat([]impl.Sess{{Name: "spare", Wins: []int{77}}}, 5)...)[:len(s.Sess)]
	return s
}

// wholeState returns a copy of the state with what is in the spare capacity of its slices.
func wholeState(s impl.State) impl.State {
	s.Panes, s.Wins, s.Sess = slices.Clone(s.Panes[:cap(s.Panes)]), slices.Clone(s.Wins[:cap(s.Wins)]), slices.Clone(s.Sess[:cap(s.Sess)])
	for i, p := range s.Panes {
		s.Panes[i].Term = wholeTerm(p.Term)
	}
	for i, w := range s.Wins {
		s.Wins[i].Tree = slices.Clone(w.Tree[:cap(w.Tree)])
	}
	for i, x := range s.Sess {
		s.Sess[i].Wins = slices.Clone(x.Wins[:cap(x.Wins)])
	}
	return s
}

// stateMemory returns a function for every slice of the state that overwrites it with its spare capacity. The slices in others come first.
func stateMemory(s *impl.State) []func() {
	var l []func()
	for i := range s.Panes {
		l = append(l, termMemory(&s.Panes[i].Term)...)
	}
	for i := range s.Wins {
		l = append(l, func() { overwriteNodes(s.Wins[i].Tree) })
	}
	for i := range s.Sess {
		l = append(l, func() { overwriteInts(s.Sess[i].Wins) })
	}
	return append(l, func() {
		for i := range s.Panes[:cap(s.Panes)] {
			s.Panes[:cap(s.Panes)][i] = impl.Pane{Id: -9, Cmd: "overwritten"}
		}
	}, func() {
		for i := range s.Wins[:cap(s.Wins)] {
			s.Wins[:cap(s.Wins)][i] = impl.Win{Id: -9, Name: "overwritten"}
		}
	}, func() {
		for i := range s.Sess[:cap(s.Sess)] {
			s.Sess[:cap(s.Sess)][i] = impl.Sess{Name: "overwritten"}
		}
	})
}

func overwriteState(s impl.State) {
	for _, f := range stateMemory(&s) {
		f()
	}
}

// stateResults calls every function that is given a state or a pane.
func stateResults(s impl.State) []impl.State {
	for _, n := range numbersAround(s) {
		impl.PaneAt(s, n)
		impl.WinAt(s, n)
		impl.WinOf(s, n)
		impl.SessOf(s, n)
		impl.Area(s, n)
	}
	for _, p := range s.Panes {
		impl.PaneOk(p)
	}
	impl.SessAt(s, "main")
	impl.SessAt(s, "")
	impl.StateOk(s)
	return []impl.State{impl.Fit(s), impl.Lost(s)}
}

// sharingStates are valid, can be fitted, or are not valid.
func sharingStates() []impl.State {
	l := []impl.State{
		sampleState(), lookupState(), {}, {W: 9, H: 5, Next: 1},
		changedState(sampleState(), func(s *impl.State) { s.W, s.H = 20, 9 }),
		changedState(sampleState(), func(s *impl.State) { s.W, s.Wins[1].Tree = 8, lone(7) }),
		changedState(sampleState(), func(s *impl.State) { s.Wins = nil }),
	}
	for i, c := range badStateChanges() {
		if s := changedState(sampleState(), c.change); i%70 == 0 && len(s.Sess) < 9 {
			l = append(l, s)
		}
	}
	return l
}

func TestStateFunctionsLeaveTheirArgumentsAlone(t *testing.T) {
	for i, s := range sharingStates() {
		s = spareState(s)
		before := wholeState(s)
		unchanged := func(when string) {
			t.Helper()
			wantState(t, fmt.Sprintf("%s: the argument %d with its spare capacity", when, i), wholeState(s), before)
		}
		returned := stateResults(s)
		unchanged("after the calls")
		again := stateResults(s)
		for _, r := range returned {
			overwriteState(r)
		}
		unchanged("after the results were overwritten")
		third := stateResults(s)
		overwriteState(s)
		for k := range third {
			wantState(t, fmt.Sprintf("the result %d for the state %d after others were overwritten", k, i), third[k], again[k])
		}
	}
}

// TestSlicesOfOneStateShareNothing overwrites each slice of a result and looks at what the others have then.
func TestSlicesOfOneStateShareNothing(t *testing.T) {
	for i, s := range sharingStates() {
		s = spareState(s)
		for k, want := range stateResults(s) {
			for at := range stateMemory(&want) {
				got, expected := []impl.State{impl.Fit(s), impl.Lost(s)}[k], deepState(want)
				stateMemory(&got)[at]()
				stateMemory(&expected)[at]()
				wantState(t, fmt.Sprintf("the result %d for the state %d with the slice %d overwritten", k, i, at), got, expected)
			}
		}
	}
}

// TestStatesOfOneArray: panes may have one terminal, and trees and sessions may lie in one list.
func TestStatesOfOneArray(t *testing.T) {
	nodes := slices.Concat(lone(2), beside(4, lone(3), lone(4)), beside(4, lone(6), lone(8)))
	ints := []int{1, 5, 7, 77, 77}
	term := paneTerm(4, 7, 3, 2)
	before, nodesBefore, intsBefore := deepTerm(term), slices.Clone(nodes), slices.Clone(ints)
	s := impl.State{W: 9, H: 7, Limit: 3, Next: 9}
	for _, id := range []int{2, 3, 4, 6, 8} {
		s.Panes = append(s.Panes, paneOf(id, term))
	}
	s.Wins = []impl.Win{{Id: 1, Name: "a", Tree: nodes[:1], Active: 2}, {Id: 5, Name: "b", Tree: nodes[1:4], Active: 3}, {Id: 7, Name: "c", Tree: nodes[4:], Active: 8}}
	s.Sess = []impl.Sess{{Name: "x", Wins: ints[:1], Active: 1}, {Name: "y", Wins: ints[1:3], Active: 7}}
	checkState(t, "one array, before Fit", s, false)
	fitted := impl.Fit(s)
	checkState(t, "one array", fitted, true)
	for _, got := range []impl.State{fitted, impl.Lost(impl.Fit(s))} {
		for at := range stateMemory(&got) {
			changed, expected := impl.Fit(s), deepState(impl.Fit(s))
			stateMemory(&changed)[at]()
			stateMemory(&expected)[at]()
			wantState(t, "one array, overwritten", changed, expected)
		}
		overwriteState(got)
	}
	if !equalTerms(term, before) || !slices.Equal(nodes, nodesBefore) || !slices.Equal(ints, intsBefore) {
		t.Error("the array is changed")
	}
}
