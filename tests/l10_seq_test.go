package tests

import (
	"fmt"
	"math"
	"math/rand"
	"slices"
	"strings"
	"testing"

	"loop.example/g00661/impl"
)

const maxArg = 9999

// plainFinals and markFinals are the final bytes that the document names.
const plainFinals = "ABCDGdHfJKX@PLMSTmrg"
const markFinals = "hl"
const escBytes = "DME78Hc"

func modelEsc(s impl.Scr, b int) impl.Scr {
	s = deepScr(s)
	switch b {
	case 'D':
		return modelDown(s)
	case 'M':
		return modelUp(s)
	case 'E':
		s = modelDown(s)
		s.X = 0
	case '7':
		s.SaveX, s.SaveY, s.SaveA = s.X, s.Y, s.A
	case '8':
		s.X, s.Y, s.A, s.Wrap = s.SaveX, s.SaveY, s.SaveA, false
	case 'H':
		s.Tabs = modelStops(s, func(x int) bool { return x == s.X || slices.Contains(s.Tabs, x) })
	case 'c':
		s = impl.Scr{W: s.W, H: s.H, Main: blankGrid(s.W, s.H), Alt: blankGrid(s.W, s.H), Bot: s.H - 1, Tabs: modelTabs(s.W), Limit: s.Limit, Back: s.Back}
	}
	return s
}

func modelStops(s impl.Scr, isStop func(x int) bool) []int {
	var l []int
	for x := range s.W {
		if isStop(x) {
			l = append(l, x)
		}
	}
	return l
}

func modelArgsOk(args []int) bool {
	for _, arg := range args {
		if arg < 0 || arg > 9999 {
			return false
		}
	}
	return len(args) <= 8
}

// modelCsi expects arguments that are valid.
func modelCsi(s impl.Scr, mark bool, args []int, b int) impl.Scr {
	if mark {
		return modelModes(s, args, b)
	}
	n, m, k := 1, 1, 0
	if len(args) > 0 {
		n, k = max(1, args[0]), args[0]
	}
	if len(args) > 1 {
		m = max(1, args[1])
	}
	switch b {
	case 'A':
		return modelGo(s, s.X, s.Y-n)
	case 'B':
		return modelGo(s, s.X, s.Y+n)
	case 'C':
		return modelGo(s, s.X+n, s.Y)
	case 'D':
		return modelGo(s, s.X-n, s.Y)
	case 'G':
		return modelGo(s, n-1, s.Y)
	case 'd':
		return modelGo(s, s.X, n-1)
	case 'H', 'f':
		return modelGo(s, m-1, n-1)
	case 'J', 'K', 'X':
		return modelErase(s, b, n, k)
	case '@', 'P':
		s, g := modelShown(s)
		*g = modelShift(*g, s.X, s.Y, map[int]int{'@': n, 'P': -n}[b])
		return *s
	case 'L', 'M', 'S', 'T':
		return modelScroll(s, b, n)
	}
	return modelSetting(s, b, args, n, k)
}

// modelShown returns a copy of the screen, and its shown grid.
func modelShown(s impl.Scr) (*impl.Scr, *impl.Grid) {
	s = deepScr(s)
	return &s, modelGrid(&s)
}

// modelErase looks at every cell of the shown grid, by its column and row.
func modelErase(s impl.Scr, b int, n int, k int) impl.Scr {
	after, g := modelShown(s)
	*g = gridBy(s.W, s.H, func(x, y int) impl.Cell {
		inRow := y == s.Y
		fromCursor, upToCursor := inRow && x >= s.X, inRow && x <= s.X
		if b == 'J' {
			inRow, fromCursor, upToCursor = true, fromCursor || y > s.Y, upToCursor || y < s.Y
		}
		erased := k == 0 && fromCursor || k == 1 && upToCursor || k == 2 && inRow
		if b == 'X' {
			erased = fromCursor && x < s.X+n
		}
		if erased {
			return blankCell()
		}
		return g.Cells[y*s.W+x]
	})
	return *after
}

func modelScroll(s impl.Scr, b int, n int) impl.Scr {
	after, g := modelShown(s)
	switch inside := s.Top <= s.Y && s.Y <= s.Bot; {
	case b == 'T':
		*g = modelRoll(*g, s.Top, s.Bot, -n)
	case b == 'S':
		// One row after the other, each of which leaves the region.
		after.Y = s.Bot
		scrolled := *after
		for range min(n, s.Bot-s.Top+1) {
			scrolled = modelDown(scrolled)
		}
		scrolled.Y, scrolled.Wrap = s.Y, s.Wrap
		return scrolled
	case inside:
		*g = modelRoll(*g, s.Y, s.Bot, map[int]int{'L': -n, 'M': n}[b])
		after.X, after.Wrap = 0, false
	}
	return *after
}

func modelSetting(s impl.Scr, b int, args []int, n int, k int) impl.Scr {
	s = deepScr(s)
	switch b {
	case 'm':
		s.A = modelSgr(s.A, args...)
		if len(args) == 0 {
			s.A = impl.Attr{}
		}
	case 'r':
		t, u := n-1, s.H-1
		if len(args) > 1 && args[1] != 0 {
			u = args[1] - 1
		}
		if 0 <= t && t < u && u < s.H {
			s.Top, s.Bot = t, u
			return modelGo(s, 0, 0)
		}
	case 'g':
		if k == 0 || k == 3 {
			s.Tabs = modelStops(s, func(x int) bool { return k == 0 && x != s.X && slices.Contains(s.Tabs, x) })
		}
	}
	return s
}

func modelModes(s impl.Scr, args []int, b int) impl.Scr {
	s = deepScr(s)
	for _, arg := range args {
		switch (map[int]string{'h': "set ", 'l': "reset "}[b]) + fmt.Sprint(arg) {
		case "set 7":
			s.NoWrap = false
		case "reset 7":
			s.NoWrap, s.Wrap = true, false
		case "set 25":
			s.Hide = false
		case "reset 25":
			s.Hide = true
		case "set 1049":
			if !s.OnAlt {
				s.SaveX, s.SaveY, s.SaveA, s.Alt, s.OnAlt = s.X, s.Y, s.A, blankGrid(s.W, s.H), true
			}
		case "reset 1049":
			if s.OnAlt {
				s.OnAlt, s.X, s.Y, s.A, s.Wrap = false, s.SaveX, s.SaveY, s.SaveA, false
			}
		}
	}
	return s
}

func escCall(b int) scrCall {
	return scrCall{fmt.Sprintf("ScrEsc of %d", b), func(s impl.Scr) impl.Scr { return impl.ScrEsc(s, b) }, func(s impl.Scr) impl.Scr { return modelEsc(s, b) }}
}

func csiCall(mark bool, b int, args ...int) scrCall {
	return scrCall{
		fmt.Sprintf("ScrCsi of %v, %d, %d", mark, args, b),
		func(s impl.Scr) impl.Scr { return impl.ScrCsi(s, mark, args, b) },
		func(s impl.Scr) impl.Scr { return modelCsi(s, mark, args, b) },
	}
}

func actCall(a impl.Act) scrCall {
	return scrCall{fmt.Sprintf("ScrAct of %+v", a), func(s impl.Scr) impl.Scr { return impl.ScrAct(s, a) }, func(s impl.Scr) impl.Scr { return modelAct(s, a) }}
}

func modelAct(s impl.Scr, a impl.Act) impl.Scr {
	switch a.Kind {
	case 1:
		return modelWrite(s, a.R)
	case 2:
		return modelCtl(s, a.R)
	case 3:
		return modelEsc(s, a.R)
	case 4:
		return modelCsi(s, a.Mark, a.Args, a.R)
	}
	return deepScr(s)
}

// modeArgs are lists of arguments for sequences with a mark.
func modeArgs() [][]int {
	return [][]int{
		nil, {7}, {25}, {1049}, {7, 25}, {25, 7}, {7, 1049}, {1049, 7}, {25, 1049}, {1049, 25}, {7, 25, 1049}, {1049, 25, 7}, {25, 1049, 7},
		{7, 7}, {25, 25}, {1049, 1049}, {0}, {1}, {6}, {8}, {24}, {26}, {47}, {1047}, {1048}, {1050}, {2004}, {9999}, {0, 7}, {7, 0}, {1, 25, 2}, {1048, 1049, 1050}, {1049, 0, 0, 0, 0, 7, 1, 25},
	}
}

// firstCalls are all sequences with the first argument missing, 0, and around the limits of a screen of w columns and h rows.
func firstCalls(w int, h int) []scrCall {
	var l []scrCall
	for _, b := range plainFinals {
		l = append(l, csiCall(false, int(b)))
		for _, n := range []int{0, 1, 2, 3, w - 1, w, w + 1, h - 1, h, h + 1, maxArg} {
			l = append(l, csiCall(false, int(b), n))
		}
	}
	for _, b := range "Hfr" {
		for _, args := range [][]int{{0, 0}, {1, 1}, {1, 2}, {1, h}, {2, 1}, {2, 2}, {2, 3}, {2, h + 1}, {h - 1, h}, {h, w}, {h + 1, w + 1}, {maxArg, maxArg}, {0, h}, {2, 0}} {
			l = append(l, csiCall(false, int(b), args...))
		}
	}
	return l
}

func markCalls() []scrCall {
	var l []scrCall
	for _, args := range modeArgs() {
		l = append(l, csiCall(true, 'h', args...), csiCall(true, 'l', args...))
	}
	return l
}

func escCalls() []scrCall {
	var l []scrCall
	for _, b := range escBytes {
		l = append(l, escCall(int(b)))
	}
	return l
}

// TestSequencesOfAllCursorsAndRegions compares the functions with their models for each cursor, mode and region of small screens.
func TestSequencesOfAllCursorsAndRegions(t *testing.T) {
	for _, size := range smallSizes() {
		for _, b := range backs() {
			s := sampleScr(size[0], size[1], b[0], b[1])
			calls := slices.Concat(escCalls(), markCalls(), firstCalls(s.W, s.H))
			count := 0
			cursorStates(s, func(s impl.Scr) {
				// The rows of the scrollback matter to few of the calls.
				count++
				for i, c := range calls {
					if b[1] == 2 || (count+i)%9 == 0 {
						checkCall(t, c, s)
					}
				}
			})
		}
	}
}

// TestEveryPairOfArguments also has a third argument, which nothing but m, h and l uses.
func TestEveryPairOfArguments(t *testing.T) {
	for _, size := range [][2]int{{1, 1}, {6, 4}, {4, 6}} {
		s := sampleScr(size[0], size[1], 4, 3)
		s.X, s.Y = s.W/2, s.H/2
		values := []int{0, 1, 2, 3, 4, 5, 6, 7, 8, 25, 31, 1049, maxArg - 1, maxArg}
		for _, b := range plainFinals + markFinals {
			for _, n := range values {
				for _, m := range values {
					for _, mark := range []bool{false, true} {
						checkCall(t, csiCall(mark, int(b), n, m), s)
						checkCall(t, csiCall(mark, int(b), n, m, 4), s)
					}
				}
			}
		}
	}
}

func TestSequencesOnLargeScreens(t *testing.T) {
	for _, size := range [][2]int{{120, 33}, {33, 120}, {120, 1}, {1, 120}} {
		s := sampleScr(size[0], size[1], 100, 97)
		for _, at := range [][2]int{{0, 0}, {s.W - 1, s.H - 1}} {
			s.X, s.Y = at[0], at[1]
			for i, c := range slices.Concat(escCalls(), markCalls(), firstCalls(s.W, s.H)) {
				if i%3 == s.Y%3 {
					checkCall(t, c, s)
				}
			}
		}
		s.X, s.Y = 0, 0
		for _, b := range plainFinals {
			for n := range 130 {
				if n%17 == int(b)%17 {
					checkCall(t, csiCall(false, int(b), n), s)
				}
			}
		}
	}
}

// alphabetScr shows the rows abcde, fghij, klmno and pqrst, with the cursor on h and a limit of 9.
func alphabetScr(t *testing.T) impl.Scr {
	t.Helper()
	return impl.ScrGo(write(newScr(t, 5, 4, 9), "abcdefghijklmnopqrst"), 2, 1)
}

const alphabet = "abcde|fghij|klmno|pqrst|"

func csiOf(s impl.Scr, b int, args ...int) impl.Scr { return impl.ScrCsi(s, false, args, b) }

func setMode(s impl.Scr, args ...int) impl.Scr { return impl.ScrCsi(s, true, args, 'h') }

func resetMode(s impl.Scr, args ...int) impl.Scr { return impl.ScrCsi(s, true, args, 'l') }

func TestMovesKnown(t *testing.T) {
	known := []struct {
		b    int
		args []int
		x, y int
	}{
		{'A', nil, 2, 0}, {'A', []int{0}, 2, 0}, {'A', []int{1}, 2, 0}, {'A', []int{2}, 2, 0}, {'A', []int{9999}, 2, 0}, {'A', []int{1, 2}, 2, 0},
		{'B', nil, 2, 2}, {'B', []int{0}, 2, 2}, {'B', []int{1}, 2, 2}, {'B', []int{2}, 2, 3}, {'B', []int{3}, 2, 3}, {'B', []int{9999}, 2, 3},
		{'C', nil, 3, 1}, {'C', []int{0}, 3, 1}, {'C', []int{1}, 3, 1}, {'C', []int{2}, 4, 1}, {'C', []int{3}, 4, 1}, {'C', []int{9999}, 4, 1},
		{'D', nil, 1, 1}, {'D', []int{0}, 1, 1}, {'D', []int{1}, 1, 1}, {'D', []int{2}, 0, 1}, {'D', []int{3}, 0, 1}, {'D', []int{9999}, 0, 1},
		{'G', nil, 0, 1}, {'G', []int{0}, 0, 1}, {'G', []int{1}, 0, 1}, {'G', []int{4}, 3, 1}, {'G', []int{5}, 4, 1}, {'G', []int{6}, 4, 1}, {'G', []int{9999}, 4, 1},
		{'d', nil, 2, 0}, {'d', []int{0}, 2, 0}, {'d', []int{1}, 2, 0}, {'d', []int{3}, 2, 2}, {'d', []int{4}, 2, 3}, {'d', []int{5}, 2, 3}, {'d', []int{9999}, 2, 3},
		{'H', nil, 0, 0}, {'H', []int{0}, 0, 0}, {'H', []int{3}, 0, 2}, {'H', []int{3, 0}, 0, 2}, {'H', []int{0, 4}, 3, 0}, {'H', []int{2, 4}, 3, 1}, {'H', []int{4, 5}, 4, 3},
		{'H', []int{5, 6}, 4, 3}, {'H', []int{1, 9999}, 4, 0}, {'H', []int{9999, 1}, 0, 3}, {'H', []int{2, 3, 4}, 2, 1}, {'H', []int{1, 2, 3, 4, 5, 6, 7, 8}, 1, 0},
	}
	s := alphabetScr(t)
	wrap := changedScr(s, func(s *impl.Scr) { s.X, s.Wrap = 4, true })
	for _, k := range known {
		what := fmt.Sprintf("%c with %d", k.b, k.args)
		wantKnown(t, what, csiOf(s, k.b, k.args...), k.x, k.y, false, alphabet)
		if k.b == 'H' {
			wantKnown(t, "f instead of "+what, csiOf(s, 'f', k.args...), k.x, k.y, false, alphabet)
		}
		if got := csiOf(wrap, k.b, k.args...); got.Wrap {
			t.Errorf("%s: Wrap is still true", what)
		}
	}
	wantKnown(t, "C with Wrap", csiOf(wrap, 'C'), 4, 1, false, alphabet)
	wantKnown(t, "D with Wrap", csiOf(wrap, 'D'), 3, 1, false, alphabet)
	wantKnown(t, "a rune after C with Wrap", write(csiOf(wrap, 'C'), "x"), 4, 1, true, "abcde|fghix|klmno|pqrst|")
}

// TestMovesAtEachSide: nothing scrolls, and the scrolling region does not limit the cursor.
func TestMovesAtEachSide(t *testing.T) {
	s := alphabetScr(t)
	s.Top, s.Bot = 1, 2
	for _, k := range []struct {
		b, x, y, toX, toY int
	}{
		{'A', 2, 0, 2, 0}, {'A', 2, 1, 2, 0}, {'A', 2, 2, 2, 1}, {'A', 2, 3, 2, 2}, {'B', 2, 3, 2, 3}, {'B', 2, 2, 2, 3}, {'B', 2, 0, 2, 1},
		{'C', 4, 1, 4, 1}, {'C', 3, 1, 4, 1}, {'C', 0, 1, 1, 1}, {'D', 0, 1, 0, 1}, {'D', 1, 1, 0, 1}, {'D', 4, 1, 3, 1},
	} {
		for _, args := range [][]int{nil, {0}, {1}} {
			wantKnown(t, fmt.Sprintf("%c with %d at %d, %d", k.b, args, k.x, k.y), csiOf(impl.ScrGo(s, k.x, k.y), k.b, args...), k.toX, k.toY, false, alphabet)
		}
	}
	wantKnown(t, "H above the region", csiOf(s, 'H', 1, 1), 0, 0, false, alphabet)
	wantKnown(t, "d below the region", csiOf(s, 'd', 4), 2, 3, false, alphabet)
}

func TestEraseKnown(t *testing.T) {
	known := []struct {
		b    int
		args []int
		x, y int
		text string
	}{
		{'J', nil, 2, 1, "abcde|fg|||"}, {'J', []int{0}, 2, 1, "abcde|fg|||"}, {'J', []int{1}, 2, 1, "|   ij|klmno|pqrst|"}, {'J', []int{2}, 2, 1, "||||"},
		{'J', []int{3}, 2, 1, alphabet}, {'J', []int{9999}, 2, 1, alphabet}, {'J', []int{3, 2}, 2, 1, alphabet}, {'J', []int{0, 2}, 2, 1, "abcde|fg|||"},
		{'J', nil, 0, 0, "||||"}, {'J', []int{1}, 0, 0, " bcde|fghij|klmno|pqrst|"}, {'J', nil, 4, 3, "abcde|fghij|klmno|pqrs|"}, {'J', []int{1}, 4, 3, "||||"},
		{'J', nil, 4, 0, "abcd||||"}, {'J', []int{1}, 4, 0, "|fghij|klmno|pqrst|"}, {'J', nil, 0, 3, "abcde|fghij|klmno||"}, {'J', []int{1}, 0, 3, "||| qrst|"},
		{'J', []int{2}, 0, 0, "||||"}, {'J', []int{2}, 4, 3, "||||"}, {'J', []int{3}, 0, 0, alphabet}, {'J', []int{3}, 4, 3, alphabet},
		{'K', nil, 2, 1, "abcde|fg|klmno|pqrst|"}, {'K', []int{0}, 2, 1, "abcde|fg|klmno|pqrst|"}, {'K', []int{1}, 2, 1, "abcde|   ij|klmno|pqrst|"}, {'K', []int{2}, 2, 1, "abcde||klmno|pqrst|"},
		{'K', []int{3}, 2, 1, alphabet}, {'K', []int{9999}, 2, 1, alphabet}, {'K', []int{1, 2}, 2, 1, "abcde|   ij|klmno|pqrst|"},
		{'K', nil, 0, 0, "|fghij|klmno|pqrst|"}, {'K', []int{1}, 0, 0, " bcde|fghij|klmno|pqrst|"}, {'K', nil, 4, 3, "abcde|fghij|klmno|pqrs|"}, {'K', []int{1}, 4, 3, "abcde|fghij|klmno||"},
		{'K', nil, 4, 0, "abcd|fghij|klmno|pqrst|"}, {'K', []int{1}, 4, 0, "|fghij|klmno|pqrst|"}, {'K', nil, 0, 3, "abcde|fghij|klmno||"}, {'K', []int{2}, 4, 3, "abcde|fghij|klmno||"},
		{'X', nil, 2, 1, "abcde|fg ij|klmno|pqrst|"}, {'X', []int{0}, 2, 1, "abcde|fg ij|klmno|pqrst|"}, {'X', []int{1}, 2, 1, "abcde|fg ij|klmno|pqrst|"}, {'X', []int{2}, 2, 1, "abcde|fg  j|klmno|pqrst|"},
		{'X', []int{3}, 2, 1, "abcde|fg|klmno|pqrst|"}, {'X', []int{4}, 2, 1, "abcde|fg|klmno|pqrst|"}, {'X', []int{9999}, 2, 1, "abcde|fg|klmno|pqrst|"},
		{'X', nil, 0, 0, " bcde|fghij|klmno|pqrst|"}, {'X', []int{5}, 0, 0, "|fghij|klmno|pqrst|"}, {'X', []int{6}, 0, 0, "|fghij|klmno|pqrst|"}, {'X', nil, 4, 3, "abcde|fghij|klmno|pqrs|"},
		{'X', []int{2}, 4, 3, "abcde|fghij|klmno|pqrs|"}, {'X', []int{9999}, 4, 0, "abcd|fghij|klmno|pqrst|"},
		{'@', nil, 2, 1, "abcde|fg hi|klmno|pqrst|"}, {'@', []int{0}, 2, 1, "abcde|fg hi|klmno|pqrst|"}, {'@', []int{2}, 2, 1, "abcde|fg  h|klmno|pqrst|"}, {'@', []int{3}, 2, 1, "abcde|fg|klmno|pqrst|"},
		{'@', []int{4}, 2, 1, "abcde|fg|klmno|pqrst|"}, {'@', []int{9999}, 2, 1, "abcde|fg|klmno|pqrst|"}, {'@', nil, 0, 0, " abcd|fghij|klmno|pqrst|"}, {'@', []int{6}, 0, 0, "|fghij|klmno|pqrst|"},
		{'@', nil, 4, 3, "abcde|fghij|klmno|pqrs|"}, {'@', []int{2}, 4, 0, "abcd|fghij|klmno|pqrst|"},
		{'P', nil, 2, 1, "abcde|fgij|klmno|pqrst|"}, {'P', []int{0}, 2, 1, "abcde|fgij|klmno|pqrst|"}, {'P', []int{2}, 2, 1, "abcde|fgj|klmno|pqrst|"}, {'P', []int{3}, 2, 1, "abcde|fg|klmno|pqrst|"},
		{'P', []int{4}, 2, 1, "abcde|fg|klmno|pqrst|"}, {'P', []int{9999}, 2, 1, "abcde|fg|klmno|pqrst|"}, {'P', nil, 0, 0, "bcde|fghij|klmno|pqrst|"}, {'P', []int{6}, 0, 0, "|fghij|klmno|pqrst|"},
		{'P', nil, 4, 3, "abcde|fghij|klmno|pqrs|"}, {'P', []int{2}, 4, 0, "abcd|fghij|klmno|pqrst|"},
	}
	s := alphabetScr(t)
	for _, k := range known {
		what := fmt.Sprintf("%c with %d at %d, %d", k.b, k.args, k.x, k.y)
		at := impl.ScrGo(s, k.x, k.y)
		wantKnown(t, what, csiOf(at, k.b, k.args...), k.x, k.y, false, k.text)
		if at.Wrap = k.x == 4; at.Wrap {
			wantKnown(t, what+" with Wrap", csiOf(at, k.b, k.args...), k.x, k.y, true, k.text)
		}
		alt := changedScr(at, func(s *impl.Scr) { s.OnAlt, s.Main, s.Alt = true, otherGrid(5, 4), s.Main })
		got := csiOf(alt, k.b, k.args...)
		wantKnown(t, what+" on Alt", got, k.x, k.y, at.Wrap, k.text)
		wantGrid(t, what+" on Alt: Main", got.Main, alt.Main)
	}
}

// TestErasedCellsAreBlanks: the current attribute and those of the cells do not matter.
func TestErasedCellsAreBlanks(t *testing.T) {
	for _, onAlt := range []bool{false, true} {
		s := sampleScr(5, 4, 3, 2)
		s.X, s.Y, s.OnAlt, s.A = 1, 1, onAlt, impl.Attr{Fg: 2, Bg: 4, Bold: true, Turn: true}
		for _, k := range []struct {
			b, n, blanks int
		}{
			{'J', 0, 14}, {'J', 1, 7}, {'J', 2, 20}, {'J', 3, 0}, {'K', 0, 4}, {'K', 1, 2}, {'K', 2, 5}, {'K', 3, 0}, {'X', 3, 3}, {'X', 9, 4},
			{'@', 3, 3}, {'P', 2, 2}, {'L', 2, 10}, {'M', 1, 5}, {'S', 3, 15}, {'T', 1, 5},
		} {
			got, blanks := csiOf(s, k.b, k.n), 0
			for _, c := range impl.Shown(got).Cells {
				if c == blankCell() {
					blanks++
				}
			}
			if blanks != k.blanks || got.A != s.A {
				t.Errorf("%c with %d leaves %d blanks and the attribute %+v; want %d and %+v", k.b, k.n, blanks, got.A, k.blanks, s.A)
			}
		}
	}
}

func TestRowsInsertedAndDeletedKnown(t *testing.T) {
	s := alphabetScr(t)
	for _, n := range [][]int{nil, {0}, {1}} {
		wantKnown(t, "L", csiOf(s, 'L', n...), 0, 1, false, "abcde||fghij|klmno|")
		wantKnown(t, "M", csiOf(s, 'M', n...), 0, 1, false, "abcde|klmno|pqrst||")
	}
	wantKnown(t, "L with 2", csiOf(s, 'L', 2), 0, 1, false, "abcde|||fghij|")
	wantKnown(t, "M with 2", csiOf(s, 'M', 2), 0, 1, false, "abcde|pqrst|||")
	for _, n := range []int{3, 4, 9999} {
		wantKnown(t, "L with many", csiOf(s, 'L', n), 0, 1, false, "abcde||||")
		wantKnown(t, "M with many", csiOf(s, 'M', n), 0, 1, false, "abcde||||")
	}
	first := impl.ScrGo(s, 3, 0)
	wantKnown(t, "L in the first row", csiOf(first, 'L'), 0, 0, false, "|abcde|fghij|klmno|")
	wantKnown(t, "M in the first row, which keeps nothing", csiOf(first, 'M', 2), 0, 0, false, "klmno|pqrst|||")
	last := impl.ScrGo(s, 3, 3)
	wantKnown(t, "L in the last row", csiOf(last, 'L'), 0, 3, false, "abcde|fghij|klmno||")
	wantKnown(t, "M in the last row", csiOf(last, 'M'), 0, 3, false, "abcde|fghij|klmno||")
	wrap := changedScr(s, func(s *impl.Scr) { s.X, s.Wrap = 4, true })
	wantKnown(t, "L with Wrap", csiOf(wrap, 'L'), 0, 1, false, "abcde||fghij|klmno|")
	wantKnown(t, "M with Wrap", csiOf(wrap, 'M'), 0, 1, false, "abcde|klmno|pqrst||")
	s.Top, s.Bot = 1, 2
	wantKnown(t, "L in the first row of the region", csiOf(impl.ScrGo(s, 2, 1), 'L'), 0, 1, false, "abcde||fghij|pqrst|")
	wantKnown(t, "M in the first row of the region", csiOf(impl.ScrGo(s, 2, 1), 'M'), 0, 1, false, "abcde|klmno||pqrst|")
	wantKnown(t, "L in the last row of the region", csiOf(impl.ScrGo(s, 2, 2), 'L'), 0, 2, false, "abcde|fghij||pqrst|")
	wantKnown(t, "M in the last row of the region", csiOf(impl.ScrGo(s, 2, 2), 'M', 7), 0, 2, false, "abcde|fghij||pqrst|")
	for _, b := range "LM" {
		for _, y := range []int{0, 3} {
			out := impl.ScrGo(s, 4, y)
			wantKnown(t, "outside of the region", csiOf(out, int(b)), 4, y, false, alphabet)
			out.Wrap = true
			wantKnown(t, "outside of the region with Wrap", csiOf(out, int(b), 2), 4, y, true, alphabet)
		}
	}
}

func TestRegionScrolledKnown(t *testing.T) {
	s := alphabetScr(t)
	s.X, s.Wrap = 4, true
	for _, n := range [][]int{nil, {0}, {1}} {
		wantKnown(t, "S", csiOf(s, 'S', n...), 4, 1, true, "fghij|klmno|pqrst||", "abcde")
		wantKnown(t, "T", csiOf(s, 'T', n...), 4, 1, true, "|abcde|fghij|klmno|")
	}
	wantKnown(t, "S with 3", csiOf(s, 'S', 3), 4, 1, true, "pqrst||||", "abcde", "fghij", "klmno")
	wantKnown(t, "T with 3", csiOf(s, 'T', 3), 4, 1, true, "|||abcde|")
	for _, n := range []int{4, 5, 9999} {
		wantKnown(t, "S with many", csiOf(s, 'S', n), 4, 1, true, "||||", "abcde", "fghij", "klmno", "pqrst")
		wantKnown(t, "T with many", csiOf(s, 'T', n), 4, 1, true, "||||")
	}
	upper := changedScr(s, func(s *impl.Scr) { s.Top, s.Bot = 0, 1 })
	wantKnown(t, "S in the upper rows", csiOf(upper, 'S'), 4, 1, true, "fghij||klmno|pqrst|", "abcde")
	wantKnown(t, "S with the height of the upper rows", csiOf(upper, 'S', 2), 4, 1, true, "||klmno|pqrst|", "abcde", "fghij")
	wantKnown(t, "S with more than that", csiOf(upper, 'S', 3), 4, 1, true, "||klmno|pqrst|", "abcde", "fghij")
	wantKnown(t, "T in the upper rows", csiOf(upper, 'T'), 4, 1, true, "|abcde|klmno|pqrst|")
	upper.Y = 3
	wantKnown(t, "S with the cursor outside of the region", csiOf(upper, 'S'), 4, 3, true, "fghij||klmno|pqrst|", "abcde")
	lower := changedScr(s, func(s *impl.Scr) { s.Top, s.Bot = 1, 3 })
	wantKnown(t, "S in the lower rows", csiOf(lower, 'S'), 4, 1, true, "abcde|klmno|pqrst||")
	wantKnown(t, "S with the height of the lower rows", csiOf(lower, 'S', 3), 4, 1, true, "abcde||||")
	wantKnown(t, "S with more than the lower rows", csiOf(lower, 'S', 4), 4, 1, true, "abcde||||")
	wantKnown(t, "T in the lower rows", csiOf(lower, 'T', 2), 4, 1, true, "abcde|||fghij|")
	alt := changedScr(s, func(s *impl.Scr) { s.OnAlt, s.Main, s.Alt = true, otherGrid(5, 4), s.Main })
	for _, b := range "ST" {
		wantGrid(t, "Main while Alt scrolls", csiOf(alt, int(b), 2).Main, otherGrid(5, 4))
	}
	wantKnown(t, "S on Alt", csiOf(alt, 'S', 2), 4, 1, true, "klmno|pqrst|||")
	wantKnown(t, "T on Alt", csiOf(alt, 'T', 2), 4, 1, true, "||abcde|fghij|")
}

// TestScrolledRowsAreKeptUpToTheLimit: of more rows than fit, the last ones stay.
func TestScrolledRowsAreKeptUpToTheLimit(t *testing.T) {
	rows := []string{"abcde", "fghij", "klmno", "pqrst"}
	for limit := range 8 {
		for n := 1; n <= 5; n++ {
			for before := range limit + 1 {
				s := changedScr(alphabetScr(t), func(s *impl.Scr) { s.Limit, s.Back = limit, numberedRows(before) })
				var want []string
				for _, row := range s.Back {
					want = append(want, rowText(row))
				}
				want = append(want, rows[:min(n, 4)]...)
				want = want[max(0, len(want)-limit):]
				wantKnown(t, fmt.Sprintf("S with %d, %d rows and the limit %d", n, before, limit), csiOf(s, 'S', n), 2, 1, false, strings.Join(append(slices.Clone(rows[min(n, 4):]), ""), "|")+strings.Repeat("|", min(n, 4)), want...)
			}
		}
	}
}

// TestScrollingByTheWholeScreen: the scrollback has each row with its attributes, the first one first.
func TestScrollingByTheWholeScreen(t *testing.T) {
	s := sampleScr(9, 40, 100, 100)
	got := csiOf(s, 'S', 40)
	want := slices.Clone(s.Back[40:])
	for y := range 40 {
		want = append(want, impl.Row{Cells: s.Main.Cells[9*y : 9*y+9]})
	}
	if !slices.EqualFunc(got.Back, want, equalRows) {
		t.Error("the scrollback is not the rows of the screen")
	}
	wantGrid(t, "after S", got.Main, blankGrid(9, 40))
}

func TestAttributeSequence(t *testing.T) {
	for _, a := range someAttrs() {
		for _, args := range [][]int{nil, {}, {0}, {1}, {1, 32}, {32, 1, 0}, {0, 4}, {38, 5, 1}, {2}, {90}, {9999}, {1049}, {7, 25}, {22, 24, 27}, {39, 49}, {37, 47}, {1, 4, 7, 31, 42, 0, 33, 44}} {
			s := sampleScr(4, 3, 2, 1)
			s.X, s.Y, s.A, s.Wrap = 3, 1, a, true
			want := deepScr(s)
			want.A = impl.Sgr(a, args)
			wantScr(t, fmt.Sprintf("m with %d and %+v", args, a), csiOf(s, 'm', args...), want)
			wantScr(t, fmt.Sprintf("m with %d and a mark", args), impl.ScrCsi(s, true, args, 'm'), s)
		}
	}
	s := csiOf(newScr(t, 3, 1, 0), 'm', 1, 32)
	if s.A != (impl.Attr{Fg: 3, Bold: true}) || csiOf(s, 'm').A != (impl.Attr{}) || csiOf(s, 'm', 0).A != (impl.Attr{}) || csiOf(s, 'm', 999).A != s.A {
		t.Error("m sets other attributes")
	}
	if c := impl.GridAt(impl.Shown(impl.ScrRune(s, 'x')), 0, 0); c != (impl.Cell{R: 'x', A: s.A}) {
		t.Errorf("after m, the cell %+v is written", c)
	}
}

func TestRegionSequence(t *testing.T) {
	s := alphabetScr(t)
	s.X, s.Y, s.Wrap = 4, 2, true
	s.Top, s.Bot = 1, 2
	type region struct {
		args     []int
		top, bot int
	}
	for _, k := range []region{
		{nil, 0, 3}, {[]int{0}, 0, 3}, {[]int{1}, 0, 3}, {[]int{2}, 1, 3}, {[]int{3}, 2, 3}, {[]int{0, 0}, 0, 3}, {[]int{2, 0}, 1, 3}, {[]int{0, 2}, 0, 1}, {[]int{1, 2}, 0, 1},
		{[]int{1, 4}, 0, 3}, {[]int{2, 3}, 1, 2}, {[]int{3, 4}, 2, 3}, {[]int{2, 3, 4}, 1, 2}, {[]int{1, 3, 0, 0, 0, 0, 0, 9999}, 0, 2},
	} {
		want := deepScr(s)
		want.Top, want.Bot, want.X, want.Y, want.Wrap = k.top, k.bot, 0, 0, false
		wantScr(t, fmt.Sprint("r with ", k.args), csiOf(s, 'r', k.args...), want)
		wantScr(t, fmt.Sprint("r with a mark and ", k.args), impl.ScrCsi(s, true, k.args, 'r'), s)
	}
	for _, args := range [][]int{{4}, {5}, {9999}, {1, 1}, {0, 1}, {2, 2}, {4, 4}, {3, 2}, {4, 1}, {4, 0}, {1, 5}, {3, 5}, {4, 5}, {5, 5}, {5, 6}, {5, 0}, {1, 9999}, {9999, 9999}, {9999, 0}} {
		wantScr(t, fmt.Sprint("r with ", args), csiOf(s, 'r', args...), s)
	}
	one := sampleScr(3, 1, 2, 1)
	one.X, one.Wrap = 2, true
	for _, args := range [][]int{nil, {0}, {1}, {1, 1}, {1, 0}, {0, 0}, {1, 2}, {2}} {
		wantScr(t, fmt.Sprint("on one row, r with ", args), csiOf(one, 'r', args...), one)
	}
	two := csiOf(sampleScr(3, 2, 2, 1), 'r', 1, 2)
	if two.Top != 0 || two.Bot != 1 {
		t.Error("r does not set the region of two rows")
	}
}

func TestTabStopSequences(t *testing.T) {
	stops := [][]int{nil, {0}, {3}, {9}, {0, 9}, {2, 4}, {0, 3, 4, 9}, {0, 1, 2, 3, 4, 5, 6, 7, 8, 9}}
	for _, tabs := range stops {
		for x := range 10 {
			s := sampleScr(10, 2, 1, 1)
			s.Tabs, s.X = tabs, x
			set, gone, none := deepScr(s), deepScr(s), deepScr(s)
			set.Tabs = slices.Sorted(slices.Values(append(slices.DeleteFunc(slices.Clone(tabs), func(n int) bool { return n == x }), x)))
			gone.Tabs = slices.DeleteFunc(slices.Clone(tabs), func(n int) bool { return n == x })
			none.Tabs = nil
			what := fmt.Sprintf("at %d with %d", x, tabs)
			wantScr(t, "H "+what, impl.ScrEsc(s, 'H'), set)
			wantScr(t, "H twice "+what, impl.ScrEsc(impl.ScrEsc(s, 'H'), 'H'), set)
			wantScr(t, "g "+what, csiOf(s, 'g'), gone)
			wantScr(t, "g with 0 "+what, csiOf(s, 'g', 0), gone)
			wantScr(t, "g with 0, 3 "+what, csiOf(s, 'g', 0, 3), gone)
			wantScr(t, "g with 3 "+what, csiOf(s, 'g', 3), none)
			for _, k := range []int{1, 2, 4, 9999} {
				wantScr(t, fmt.Sprint("g with ", k, what), csiOf(s, 'g', k), s)
			}
			wantScr(t, "g with a mark "+what, impl.ScrCsi(s, true, []int{3}, 'g'), s)
		}
	}
	s := impl.ScrEsc(impl.ScrGo(csiOf(newScr(t, 30, 1, 0), 'g', 3), 11, 0), 'H')
	if got := impl.ScrCtl(impl.ScrGo(s, 0, 0), 9).X; got != 11 {
		t.Errorf("a tabulator leads to column %d", got)
	}
	wrap := changedScr(sampleScr(10, 1, 0, 0), func(s *impl.Scr) { s.X, s.Wrap = 9, true })
	if !impl.ScrEsc(wrap, 'H').Wrap || !csiOf(wrap, 'g').Wrap || !csiOf(wrap, 'g', 3).Wrap {
		t.Error("tab stops end Wrap")
	}
}

func TestScrEscMovesKnown(t *testing.T) {
	s := impl.ScrGo(letterScr(t, 3, 5, 9), 1, 0)
	s.Top, s.Bot = 1, 3
	at := func(y int, b int) impl.Scr { return impl.ScrEsc(impl.ScrGo(s, 1, y), b) }
	const text = "a|b|c|d|e|"
	wantKnown(t, "D in the first row, above the region", at(0, 'D'), 1, 1, false, text)
	wantKnown(t, "D in the first row of the region", at(1, 'D'), 1, 2, false, text)
	wantKnown(t, "D in the last row of the region", at(3, 'D'), 1, 3, false, "a|c|d||e|")
	wantKnown(t, "D in the last row, below the region", at(4, 'D'), 1, 4, false, text)
	wantKnown(t, "M in the first row, above the region", at(0, 'M'), 1, 0, false, text)
	wantKnown(t, "M in the first row of the region", at(1, 'M'), 1, 1, false, "a||b|c|e|")
	wantKnown(t, "M in the last row of the region", at(3, 'M'), 1, 2, false, text)
	wantKnown(t, "M in the last row, below the region", at(4, 'M'), 1, 3, false, text)
	wantKnown(t, "E in the first row, above the region", at(0, 'E'), 0, 1, false, text)
	wantKnown(t, "E in the first row of the region", at(1, 'E'), 0, 2, false, text)
	wantKnown(t, "E in the last row of the region", at(3, 'E'), 0, 3, false, "a|c|d||e|")
	wantKnown(t, "E in the last row, below the region", at(4, 'E'), 0, 4, false, text)
	s.Top, s.Bot = 0, 4
	wantKnown(t, "D in the last row", at(4, 'D'), 1, 4, false, "b|c|d|e||", "a")
	wantKnown(t, "E in the last row", at(4, 'E'), 0, 4, false, "b|c|d|e||", "a")
	wantKnown(t, "M in the first row", at(0, 'M'), 1, 0, false, "|a|b|c|d|")
	wrap := changedScr(s, func(s *impl.Scr) { s.X, s.Y, s.Wrap = 2, 4, true })
	wantKnown(t, "D with Wrap", impl.ScrEsc(wrap, 'D'), 2, 4, false, "b|c|d|e||", "a")
	wantKnown(t, "E with Wrap", impl.ScrEsc(wrap, 'E'), 0, 4, false, "b|c|d|e||", "a")
	wantKnown(t, "M with Wrap", impl.ScrEsc(wrap, 'M'), 2, 3, false, text)
}

func TestSavedCursors(t *testing.T) {
	s := alphabetScr(t)
	s.A = impl.Attr{Fg: 4, Under: true}
	saved := impl.ScrEsc(s, '7')
	want := changedScr(s, func(s *impl.Scr) { s.SaveX, s.SaveY, s.SaveA = 2, 1, impl.Attr{Fg: 4, Under: true} })
	wantScr(t, "7", saved, want)
	back := impl.ScrEsc(csiOf(impl.ScrGo(saved, 4, 3), 'm', 0), '8')
	wantScr(t, "8", back, want)
	wantScr(t, "8 again", impl.ScrEsc(impl.ScrGo(back, 0, 3), '8'), want)
	wantScr(t, "8 without 7", impl.ScrEsc(s, '8'), changedScr(s, func(s *impl.Scr) { s.X, s.Y, s.A = 0, 0, impl.Attr{} }))
	wrap := changedScr(s, func(s *impl.Scr) { s.X, s.Y, s.Wrap = 4, 3, true })
	wantScr(t, "7 with Wrap", impl.ScrEsc(wrap, '7'), changedScr(wrap, func(s *impl.Scr) { s.SaveX, s.SaveY, s.SaveA = 4, 3, s.A }))
	wantScr(t, "8 with Wrap", impl.ScrEsc(wrap, '8'), changedScr(s, func(s *impl.Scr) { s.X, s.Y, s.A = 0, 0, impl.Attr{} }))
	// The pending wrap is not a part of what is saved.
	last := impl.ScrEsc(impl.ScrEsc(wrap, '7'), '8')
	wantKnown(t, "7 and 8 with Wrap", last, 4, 3, false, alphabet)
	wantKnown(t, "a rune after that", impl.ScrRune(last, 'x'), 4, 3, true, "abcde|fghij|klmno|pqrsx|")
	alt := changedScr(saved, func(s *impl.Scr) { s.OnAlt, s.X, s.Y = true, 0, 0 })
	wantKnown(t, "8 on Alt", impl.ScrEsc(alt, '8'), 2, 1, false, "||||")
}

func TestResetKeepsOnlyTheScrollback(t *testing.T) {
	for _, c := range goodChanges() {
		s := changedScr(baseScr(), c.change)
		s.NoWrap = true
		want := newScr(t, 5, 4, s.Limit)
		want.Back = s.Back
		wantScr(t, "c with "+c.what, impl.ScrEsc(s, 'c'), want)
	}
	for _, size := range append(smallSizes(), [2]int{120, 33}, [2]int{33, 120}) {
		for _, onAlt := range []bool{false, true} {
			s := sampleScr(size[0], size[1], 100, 100)
			s.OnAlt = onAlt
			want := newScr(t, s.W, s.H, 100)
			want.Back = s.Back
			wantScr(t, "c", impl.ScrEsc(s, 'c'), want)
		}
	}
	s := csiOf(csiOf(resetMode(setMode(alphabetScr(t), 1049), 7, 25), 'r', 2, 3), 'S', 2)
	wantScr(t, "c after sequences", impl.ScrEsc(s, 'c'), newScr(t, 5, 4, 9))
}

// someScrs are screens in which every sequence would have something to do.
func someScrs() []impl.Scr {
	var l []impl.Scr
	for _, onAlt := range []bool{false, true} {
		s := sampleScr(4, 3, 3, 2)
		s.X, s.Y, s.OnAlt, s.NoWrap = 1, 1, onAlt, onAlt
		wrap := deepScr(s)
		wrap.X, wrap.Y, wrap.Wrap = 3, 2, true
		l = append(l, s, wrap)
	}
	return l
}

func TestOtherBytesHaveNoEffect(t *testing.T) {
	for i, s := range someScrs() {
		for _, b := range append(notBytes(), allBytes()...) {
			if b < 0 || b > 255 || !strings.ContainsRune(escBytes, rune(b)) {
				wantScr(t, fmt.Sprintf("ScrEsc of %d and the screen %d", b, i), impl.ScrEsc(s, b), s)
			}
			for _, args := range [][]int{nil, {0}, {1}, {2}, {3, 3}, {7, 25, 1049}, {1049}} {
				what := fmt.Sprintf("ScrCsi of %d, %d and the screen %d", args, b, i)
				if b < 0 || b > 255 || !strings.ContainsRune(plainFinals, rune(b)) {
					wantScr(t, what, impl.ScrCsi(s, false, args, b), s)
				}
				if b != 'h' && b != 'l' {
					wantScr(t, what+" with a mark", impl.ScrCsi(s, true, args, b), s)
				}
			}
		}
	}
}

// TestBadArguments: they count for every final byte, also for those without an effect.
func TestBadArguments(t *testing.T) {
	bytes := []int{0, -1, 'z', 256, math.MinInt, math.MaxInt}
	for _, b := range plainFinals + markFinals {
		bytes = append(bytes, int(b))
	}
	for i, s := range someScrs() {
		for _, args := range append(badArgs(), someArgs()...) {
			for _, b := range bytes {
				for _, mark := range []bool{false, true} {
					c := csiCall(mark, b, args...)
					if modelArgsOk(args) {
						checkCall(t, c, s)
						continue
					}
					what := fmt.Sprintf("%s and the screen %d", c.what, i)
					wantNoScr(t, what, c.call(s))
					wantNoScr(t, what+" as an act", impl.ScrAct(s, impl.Act{Kind: impl.ActCsi, R: b, Mark: mark, Args: args}))
				}
			}
		}
	}
}

func TestModesKnown(t *testing.T) {
	s := alphabetScr(t)
	check := func(what string, s impl.Scr, noWrap, hide, onAlt bool) {
		t.Helper()
		if s.NoWrap != noWrap || s.Hide != hide || s.OnAlt != onAlt {
			t.Errorf("%s: NoWrap is %v, Hide %v, OnAlt %v; want %v, %v, %v", what, s.NoWrap, s.Hide, s.OnAlt, noWrap, hide, onAlt)
		}
	}
	check("reset 7", resetMode(s, 7), true, false, false)
	check("set 7", setMode(resetMode(s, 7), 7), false, false, false)
	check("reset 7 twice", resetMode(s, 7, 7), true, false, false)
	check("set 7 twice", setMode(resetMode(s, 7), 7, 7), false, false, false)
	check("reset 25", resetMode(s, 25), false, true, false)
	check("set 25", setMode(resetMode(s, 25), 25), false, false, false)
	check("set 1049", setMode(s, 1049), false, false, true)
	check("reset 1049", resetMode(setMode(s, 1049), 1049), false, false, false)
	check("reset all", resetMode(s, 1049, 25, 7), true, true, false)
	check("set all", setMode(resetMode(s, 25, 7), 7, 25, 1049), false, false, true)
	check("set all in another order", setMode(resetMode(s, 25, 7), 1049, 25, 7), false, false, true)
	check("among others", resetMode(s, 1, 7, 0, 9999, 25, 1047, 1048, 47), true, true, false)
	for _, ignored := range []int{0, 1, 5, 6, 8, 12, 24, 26, 47, 1000, 1047, 1048, 1050, 9999} {
		wantScr(t, fmt.Sprint("set ", ignored), setMode(s, ignored), s)
		wantScr(t, fmt.Sprint("reset ", ignored), resetMode(s, ignored), s)
	}
	wantScr(t, "set nothing", setMode(s), s)
	wantScr(t, "reset nothing", resetMode(s), s)
	wrap := changedScr(s, func(s *impl.Scr) { s.X, s.Wrap = 4, true })
	wantScr(t, "set 7 with Wrap", setMode(wrap, 7), wrap)
	wantScr(t, "set 7 with Wrap and NoWrap", setMode(changedScr(wrap, func(s *impl.Scr) { s.NoWrap = true }), 7), wrap)
	wantScr(t, "reset 7 with Wrap", resetMode(wrap, 7), changedScr(wrap, func(s *impl.Scr) { s.NoWrap, s.Wrap = true, false }))
	wantScr(t, "reset 25 with Wrap", resetMode(wrap, 25), changedScr(wrap, func(s *impl.Scr) { s.Hide = true }))
	wantScr(t, "without a mark: h", csiOf(wrap, 'h', 7, 25, 1049), wrap)
	wantScr(t, "without a mark: l", csiOf(wrap, 'l', 7, 25, 1049), wrap)
	wantKnown(t, "text without wrapping", write(resetMode(impl.ScrGo(s, 0, 3), 7), "uvwxyz"), 4, 3, false, "abcde|fghij|klmno|uvwxz|")
}

func TestAltKnown(t *testing.T) {
	s := alphabetScr(t)
	s.A, s.Alt, s.SaveX = impl.Attr{Bg: 2}, otherGrid(5, 4), 4
	on := setMode(s, 1049)
	wantScr(t, "set", on, changedScr(s, func(s *impl.Scr) {
		s.OnAlt, s.Alt, s.SaveX, s.SaveY, s.SaveA = true, blankGrid(5, 4), 2, 1, impl.Attr{Bg: 2}
	}))
	moved := csiOf(write(impl.ScrGo(on, 0, 2), "xyz"), 'm', 0)
	again := changedScr(moved, func(s *impl.Scr) { s.NoWrap = true })
	wantScr(t, "set while Alt is shown", setMode(moved, 1049), moved)
	wantScr(t, "set twice", setMode(s, 1049, 1049), on)
	wantScr(t, "set while Alt is shown, with others", setMode(again, 1049, 7), moved)
	off := resetMode(moved, 1049)
	wantScr(t, "reset", off, changedScr(moved, func(s *impl.Scr) { s.OnAlt, s.X, s.Y, s.A = false, 2, 1, impl.Attr{Bg: 2} }))
	wantKnown(t, "after the reset", off, 2, 1, false, alphabet)
	wantScr(t, "reset twice", resetMode(moved, 1049, 1049), off)
	wantScr(t, "reset while Main is shown", resetMode(off, 1049), off)
	elsewhere := impl.ScrGo(off, 4, 3)
	wantScr(t, "reset while Main is shown, elsewhere", resetMode(elsewhere, 1049), elsewhere)
	wantKnown(t, "what was on Alt is gone", setMode(off, 1049), 2, 1, false, "||||")
	wrap := changedScr(s, func(s *impl.Scr) { s.X, s.Y, s.Wrap = 4, 3, true })
	wantKnown(t, "set with Wrap", setMode(wrap, 1049), 4, 3, true, "||||")
	wantKnown(t, "a rune after set with Wrap", write(setMode(wrap, 1049), "x"), 1, 3, false, "|||x|")
	wantKnown(t, "reset with Wrap", resetMode(setMode(wrap, 1049), 1049), 4, 3, false, alphabet)
	wantKnown(t, "set with Wrap, 7 reset", resetMode(setMode(wrap, 1049), 7), 4, 3, false, "||||")
	// The saved cursor is one for both grids.
	wantKnown(t, "7 on Alt", resetMode(impl.ScrEsc(impl.ScrGo(on, 0, 3), '7'), 1049), 0, 3, false, alphabet)
}

func TestScrActOfEveryKind(t *testing.T) {
	for i, s := range someScrs() {
		for _, r := range []int{'x', 32, 65535, 160, 10, 127, -1, math.MaxInt, math.MinInt} {
			wantScr(t, fmt.Sprintf("ActRune of %d and the screen %d", r, i), impl.ScrAct(s, runeAct(r)), impl.ScrRune(s, r))
		}
		for _, b := range append(notBytes(), allBytes()...) {
			wantScr(t, fmt.Sprintf("ActCtl of %d and the screen %d", b, i), impl.ScrAct(s, ctlAct(b)), impl.ScrCtl(s, b))
			wantScr(t, fmt.Sprintf("ActEsc of %d and the screen %d", b, i), impl.ScrAct(s, escAct(b)), impl.ScrEsc(s, b))
			for _, args := range [][]int{nil, {0}, {2}, {3, 2}, {7, 25, 1049}} {
				for _, mark := range []bool{false, true} {
					wantScr(t, fmt.Sprintf("ActCsi of %d and the screen %d", b, i), impl.ScrAct(s, csiAct(mark, b, args...)), impl.ScrCsi(s, mark, args, b))
				}
			}
		}
		for _, kind := range append(extremeInts(), -1, 0, 5, 6, 256, 257, 260, 1<<32+1) {
			for _, r := range []int{0, 10, 'A', 'D', 'c', 'x'} {
				wantScr(t, fmt.Sprintf("the kind %d and the screen %d", kind, i), impl.ScrAct(s, impl.Act{Kind: kind, R: r}), s)
			}
		}
	}
}

// TestScrActIgnoresOtherFields: a kind counts with the fields that its function has a parameter for.
func TestScrActIgnoresOtherFields(t *testing.T) {
	for i, s := range someScrs() {
		for _, args := range append(badArgs(), someArgs()...) {
			for _, mark := range []bool{false, true} {
				act := func(kind, r int) impl.Scr {
					return impl.ScrAct(s, impl.Act{Kind: kind, R: r, Mark: mark, Args: args})
				}
				what := fmt.Sprintf("with %v, %d and the screen %d", mark, args, i)
				wantScr(t, "a rune "+what, act(impl.ActRune, 'x'), impl.ScrRune(s, 'x'))
				wantScr(t, "a control byte "+what, act(impl.ActCtl, 13), impl.ScrCtl(s, 13))
				wantScr(t, "a byte after 27 "+what, act(impl.ActEsc, 'M'), impl.ScrEsc(s, 'M'))
				wantScr(t, "nothing "+what, act(impl.ActNone, 'h'), s)
				wantScr(t, "another kind "+what, act(5, 'h'), s)
			}
		}
	}
}

// changingCalls have an effect on some screen each.
func changingCalls() []scrCall {
	l := append(escCalls(), actCall(runeAct('x')), actCall(runeAct(7)), actCall(ctlAct(10)), actCall(ctlAct(9)), actCall(escAct('H')), actCall(csiAct(false, 'S', 2)), actCall(csiAct(true, 'h', 1049)), actCall(impl.Act{}), actCall(impl.Act{Kind: 9, R: 1}))
	for _, b := range plainFinals {
		l = append(l, csiCall(false, int(b)), csiCall(false, int(b), 2))
	}
	return append(l, csiCall(false, 'r', 1, 2), csiCall(false, 'g', 3), csiCall(true, 'h', 7, 25, 1049), csiCall(true, 'l', 7, 25, 1049), csiCall(false, 'z', 1), csiCall(true, 'z', 1), escCall('z'), escCall(-1))
}

func TestSequencesRejectInvalidScreens(t *testing.T) {
	calls := append(changingCalls(), escCall(math.MinInt), csiCall(false, math.MaxInt, slices.Repeat([]int{maxArg}, 8)...), csiCall(true, 'h'), csiCall(false, 'A', -1))
	wantRejected(t, calls)
}

// playText feeds the pieces of a text to a parser, and its acts to the screen.
func playText(s impl.Scr, pieces ...string) impl.Scr {
	p := impl.Vp{}
	for _, piece := range pieces {
		var acts []impl.Act
		p, acts = impl.VpBytes(p, []byte(piece))
		for _, a := range acts {
			s = impl.ScrAct(s, a)
		}
	}
	return s
}

// randomOutput has text, control bytes and all the sequences, some of them with other final bytes.
func randomOutput(r *rand.Rand) string {
	var b strings.Builder
	for range 1 + r.Intn(30) {
		switch r.Intn(6) {
		case 0:
			b.WriteString([]string{"a", "text", "\u4e2d", " ", "\t", "\b", "\r", "\n", "\r\n", "\x0b"}[r.Intn(10)])
		case 1:
			b.WriteString(esc + string(rune((escBytes + "DMEDMEx=")[r.Intn(len(escBytes)+8)])))
		case 2:
			b.WriteString(csi + "?" + []string{"7", "25", "1049", "1049;7", "7;25;1049", "1", ""}[r.Intn(7)] + string(rune(markFinals[r.Intn(2)])))
		default:
			b.WriteString(csi + []string{"", "0", "1", "2", "3", "4", "5", "99", "2;3", "1;2", "0;0", ";3", "2;5", "31", "9999;9999", "1;2;3"}[r.Intn(16)] + string(rune((plainFinals + "hlz")[r.Intn(len(plainFinals)+3)])))
		}
	}
	return b.String()
}

// TestScreensStayValidUnderRandomOutput compares every step with the models, and expects what P7 says of it.
func TestScreensStayValidUnderRandomOutput(t *testing.T) {
	r := rand.New(rand.NewSource(10))
	for range 1500 {
		s := randomScr(r)
		_, acts := impl.VpBytes(impl.Vp{}, []byte(randomOutput(r)+randomText(r)+randomOutput(r)))
		for _, a := range acts {
			after := checkCall(t, actCall(a), s)
			if after.W != s.W || after.H != s.H || after.Limit != s.Limit || len(after.Back) > s.Limit || len(after.Back) < len(s.Back) {
				t.Fatalf("%+v makes a screen of %d, %d with %d of %d rows of one of %d, %d with %d of %d", a, after.W, after.H, len(after.Back), after.Limit, s.W, s.H, len(s.Back), s.Limit)
			}
			s = after
		}
	}
}

func TestScreensStayValidUnderRandomArguments(t *testing.T) {
	r := rand.New(rand.NewSource(11))
	for range 300 {
		s := randomScr(r)
		for range 100 {
			var args []int
			for range r.Intn(9) {
				args = append(args, []int{r.Intn(4), r.Intn(8), r.Intn(10000), []int{7, 25, 1049}[r.Intn(3)]}[r.Intn(4)])
			}
			s = checkCall(t, csiCall(r.Intn(3) == 0, []int{r.Intn(128), int((plainFinals + markFinals)[r.Intn(22)])}[r.Intn(2)], args...), s)
		}
	}
}

// TestOutputInAnyPieces: where the text is cut does not matter.
func TestOutputInAnyPieces(t *testing.T) {
	r := rand.New(rand.NewSource(12))
	for range 150 {
		s, text := randomScr(r), randomOutput(r)
		want := playText(s, text)
		wantScr(t, fmt.Sprintf("%q byte by byte", text), playText(s, chunks(text, 1)...), want)
		for i := range len(text) {
			wantScr(t, fmt.Sprintf("%q cut at %d", text, i), playText(s, text[:i], text[i:]), want)
		}
	}
}

// TestAltPreservesMain is the part of P7 about the alternate grid. Left out are the bytes that save another cursor or reset the screen.
func TestAltPreservesMain(t *testing.T) {
	r := rand.New(rand.NewSource(13))
	for range 800 {
		s := randomScr(r)
		s.Wrap = s.X == s.W-1
		text := randomOutput(r)
		for _, out := range []string{"1049", esc + "7", esc + "c"} {
			text = strings.ReplaceAll(text, out, "")
		}
		there := playText(s, csi+"?1049h", text)
		back := playText(there, csi+"?1049l")
		if !there.OnAlt || back.OnAlt {
			t.Fatalf("%q: Alt is not shown, or still shown", text)
		}
		wantGrid(t, fmt.Sprintf("Main after %q on Alt", text), back.Main, s.Main)
		if back.X != s.X || back.Y != s.Y || back.A != s.A || back.Wrap || !slices.EqualFunc(back.Back, s.Back, equalRows) {
			t.Fatalf("%q on Alt changes the cursor, the attribute or the scrollback: %s", text, scrText(back))
		}
	}
}

// TestWhatIsScrolledIsInTheScrollback: rows of text come back in their order, however they are scrolled out.
func TestWhatIsScrolledIsInTheScrollback(t *testing.T) {
	for _, up := range []string{"\n", esc + "D", esc + "E", csi + "S", csi + "0S", csi + "1S"} {
		s := newScr(t, 8, 3, 5)
		var all []string
		for i := range 12 {
			all = append(all, fmt.Sprint("row ", i))
			s = playText(s, csi+"3;1H", all[i], up)
		}
		wantKnown(t, fmt.Sprintf("rows scrolled by %q", up), changedScr(s, func(s *impl.Scr) { s.X = 0 }), 0, 2, false, "row 10|row 11||", all[5:10]...)
	}
}

// TestKnownSession plays what a program with a whole-screen display writes.
func TestKnownSession(t *testing.T) {
	s := playText(newScr(t, 10, 3, 5), "$ edit\r\n", csi+"?1049h"+csi+"2J"+csi+"H", csi+"7mtitle"+csi+"m", csi+"2;3Hbody"+csi+"K", csi+"3;1H~"+csi+"?25l")
	wantKnown(t, "the program", s, 1, 2, false, "title|  body|~|")
	if c := impl.GridAt(s.Alt, 0, 0); c != (impl.Cell{R: 't', A: impl.Attr{Turn: true}}) || !s.Hide {
		t.Errorf("the title begins with %+v, and Hide is %v", c, s.Hide)
	}
	wantKnown(t, "after the program", playText(s, csi+"?25h"+csi+"?1049l$ "), 2, 1, false, "$ edit|$||")
}

func seqResults(s impl.Scr) []impl.Scr {
	var l []impl.Scr
	for _, c := range append(changingCalls(), csiCall(false, 'A', -1)) {
		l = append(l, c.call(s))
	}
	return l
}

func TestSequencesLeaveTheirScreensAlone(t *testing.T) { checkLeftAlone(t, seqResults) }

func TestSlicesOfSequencesShareNothing(t *testing.T) { checkNothingShared(t, seqResults) }

// TestSequencesLeaveTheirArgumentsAlone also looks at the spare capacity behind the arguments, and overwrites them afterwards.
func TestSequencesLeaveTheirArgumentsAlone(t *testing.T) {
	for _, args := range append(someArgs(), badArgs()...) {
		for _, b := range plainFinals + markFinals + "z" {
			for _, mark := range []bool{false, true} {
				s := baseScr()
				whole := append(slices.Clone(args), slices.Repeat([]int{77}, 12)...)
				before := slices.Clone(whole)
				given := whole[:len(args)]
				act := csiAct(mark, int(b))
				act.Args = given
				got, acted := impl.ScrCsi(s, mark, given, int(b)), impl.ScrAct(s, act)
				if !slices.Equal(whole, before) {
					t.Fatalf("%c with %d changes its arguments", b, args)
				}
				overwriteInts(given)
				want := impl.ScrCsi(s, mark, args, int(b))
				wantScr(t, fmt.Sprintf("%c with %d overwritten", b, args), got, want)
				wantScr(t, fmt.Sprintf("the act %c with %d overwritten", b, args), acted, want)
			}
		}
	}
	// The arguments may even be the tab stops of the screen.
	s := baseScr()
	wantScr(t, "the tab stops as arguments", impl.ScrCsi(s, false, s.Tabs, 'g'), modelCsi(s, false, slices.Clone(s.Tabs), 'g'))
}
