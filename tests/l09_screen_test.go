package tests

import (
	"fmt"
	"math"
	"math/rand"
	"reflect"
	"slices"
	"strings"
	"testing"

	"loop.example/g00661/impl"
)

func newScr(t *testing.T, w int, h int, limit int) impl.Scr {
	t.Helper()
	s, ok := impl.ScrNew(w, h, limit)
	if !ok {
		t.Fatalf("ScrNew(%d, %d, %d) returns false", w, h, limit)
	}
	return s
}

// numberedRows have 1, 2, 3 and so on cells, up to the greatest number, and then again; no two of them begin alike.
func numberedRows(n int) []impl.Row {
	var l []impl.Row
	for i := range n {
		cells := numberedGrid(1+i%120, 1).Cells
		cells[0] = impl.Cell{R: 40000 + i, A: impl.Attr{Bg: i % 9}}
		l = append(l, impl.Row{Cells: cells})
	}
	return l
}

// sampleScr has a value in every field that is kept, two grids without a blank and without a cell in common, and a scrollback of n rows.
func sampleScr(w int, h int, limit int, n int) impl.Scr {
	s := impl.Scr{
		W: w, H: h, Main: numberedGrid(w, h), Alt: otherGrid(w, h),
		A: impl.Attr{Fg: 3, Bg: 5, Under: true}, Bot: h - 1, Hide: true,
		SaveX: w / 2, SaveY: h / 2, SaveA: impl.Attr{Fg: 8, Bold: true, Turn: true},
		Limit: limit, Back: numberedRows(n),
	}
	for x := 1; x < w; x += 2 {
		s.Tabs = append(s.Tabs, x)
	}
	return s
}

func deepScr(s impl.Scr) impl.Scr {
	s.Main, s.Alt = deepGrid(s.Main), deepGrid(s.Alt)
	s.Tabs, s.Back = slices.Clone(s.Tabs), slices.Clone(s.Back)
	for i := range s.Back {
		s.Back[i].Cells = slices.Clone(s.Back[i].Cells)
	}
	return s
}

func changedScr(s impl.Scr, change func(s *impl.Scr)) impl.Scr {
	s = deepScr(s)
	change(&s)
	return s
}

func equalRows(a, b impl.Row) bool { return slices.Equal(a.Cells, b.Cells) }

// withoutSlices returns the fields that have no slices in them, and the sizes of the grids.
func withoutSlices(s impl.Scr) impl.Scr {
	s.Main.Cells, s.Alt.Cells, s.Tabs, s.Back = nil, nil, nil, nil
	return s
}

func equalScrs(a, b impl.Scr) bool {
	return equalGrids(a.Main, b.Main) && equalGrids(a.Alt, b.Alt) && slices.Equal(a.Tabs, b.Tabs) && slices.EqualFunc(a.Back, b.Back, equalRows) &&
		reflect.DeepEqual(withoutSlices(a), withoutSlices(b))
}

func scrText(s impl.Scr) string {
	rows := ""
	for _, row := range s.Back {
		for _, c := range row.Cells {
			rows += string(rune(c.R))
		}
		rows += "|"
	}
	return fmt.Sprintf("%+v with the tab stops %d, the scrollback %q and the grids %q and %q", withoutSlices(s), s.Tabs, rows, impl.GridText(s.Main), impl.GridText(s.Alt))
}

func wantScr(t *testing.T, what string, got, want impl.Scr) {
	t.Helper()
	if !equalScrs(got, want) {
		t.Errorf("%s:\n the screen is %s;\n want %s", what, scrText(got), scrText(want))
	}
}

func wantNoScr(t *testing.T, what string, got impl.Scr) {
	t.Helper()
	if !equalScrs(got, impl.Scr{}) {
		t.Errorf("%s: the screen is %s; want the zero value", what, scrText(got))
	}
}

// modelScrOk is written with the conditions of the document.
func modelScrOk(s impl.Scr) bool {
	in := func(n, low, high int) bool { return low <= n && n <= high }
	ok := impl.GridOk(s.Main) && impl.GridOk(s.Alt) && s.Main.W == s.W && s.Main.H == s.H && s.Alt.W == s.W && s.Alt.H == s.H
	ok = ok && in(s.X, 0, s.W-1) && in(s.SaveX, 0, s.W-1) && in(s.Y, 0, s.H-1) && in(s.SaveY, 0, s.H-1)
	if s.Wrap {
		ok = ok && s.X == s.W-1
	}
	ok = ok && impl.AttrOk(s.A) && impl.AttrOk(s.SaveA)
	ok = ok && in(s.Top, 0, s.Bot) && in(s.Bot, s.Top, s.H-1)
	if s.Top == s.Bot {
		ok = ok && s.H == 1
	}
	for i, x := range s.Tabs {
		ok = ok && in(x, 0, s.W-1)
		for _, before := range s.Tabs[:i] {
			ok = ok && before < x
		}
	}
	ok = ok && in(s.Limit, 0, 100) && in(len(s.Back), 0, s.Limit)
	for _, row := range s.Back {
		ok = ok && in(len(row.Cells), 1, 120)
		for _, c := range row.Cells {
			ok = ok && impl.CellOk(c)
		}
	}
	return ok
}

type scrCase struct {
	what   string
	change func(s *impl.Scr)
}

// goodChanges leave a screen of 5 columns and 4 rows with a Limit of 3 and 2 rows of scrollback valid.
func goodChanges() []scrCase {
	return []scrCase{
		{"nothing", func(s *impl.Scr) {}},
		{"the cursor in the first column", func(s *impl.Scr) { s.X = 0 }},
		{"the cursor in the last column", func(s *impl.Scr) { s.X = 4 }},
		{"the cursor in the first row", func(s *impl.Scr) { s.Y = 0 }},
		{"the cursor in the last row", func(s *impl.Scr) { s.Y = 3 }},
		{"the saved cursor in the first column", func(s *impl.Scr) { s.SaveX = 0 }},
		{"the saved cursor in the last column", func(s *impl.Scr) { s.SaveX = 4 }},
		{"the saved cursor in the first row", func(s *impl.Scr) { s.SaveY = 0 }},
		{"the saved cursor in the last row", func(s *impl.Scr) { s.SaveY = 3 }},
		{"Wrap in the last column", func(s *impl.Scr) { s.X, s.Wrap = 4, true }},
		{"Wrap with NoWrap", func(s *impl.Scr) { s.X, s.Wrap, s.NoWrap = 4, true, true }},
		{"Alt shown", func(s *impl.Scr) { s.OnAlt = true }},
		{"shown cursor", func(s *impl.Scr) { s.Hide = false }},
		{"the greatest attributes", func(s *impl.Scr) { s.A, s.SaveA = someAttrs()[8], someAttrs()[8] }},
		{"the default attributes", func(s *impl.Scr) { s.A, s.SaveA = impl.Attr{}, impl.Attr{} }},
		{"the region of the first two rows", func(s *impl.Scr) { s.Top, s.Bot = 0, 1 }},
		{"the region of the last two rows", func(s *impl.Scr) { s.Top, s.Bot = 2, 3 }},
		{"the region of the middle rows", func(s *impl.Scr) { s.Top, s.Bot = 1, 2 }},
		{"no tab stops, nil", func(s *impl.Scr) { s.Tabs = nil }},
		{"no tab stops", func(s *impl.Scr) { s.Tabs = []int{} }},
		{"a tab stop in the first column", func(s *impl.Scr) { s.Tabs = []int{0} }},
		{"a tab stop in the last column", func(s *impl.Scr) { s.Tabs = []int{4} }},
		{"all tab stops", func(s *impl.Scr) { s.Tabs = []int{0, 1, 2, 3, 4} }},
		{"the limit 0", func(s *impl.Scr) { s.Limit, s.Back = 0, nil }},
		{"the limit reached", func(s *impl.Scr) { s.Limit = 2 }},
		{"the greatest limit", func(s *impl.Scr) { s.Limit = 100 }},
		{"the greatest limit reached", func(s *impl.Scr) { s.Limit, s.Back = 100, numberedRows(100) }},
		{"no scrollback", func(s *impl.Scr) { s.Back = nil }},
		{"a row of one cell", func(s *impl.Scr) { s.Back[1].Cells = numberedGrid(1, 1).Cells }},
		{"a row of MaxSide cells", func(s *impl.Scr) { s.Back[1].Cells = numberedGrid(120, 1).Cells }},
		{"one grid twice", func(s *impl.Scr) { s.Alt = s.Main }},
	}
}

// badChanges make the same screen invalid, with nothing else wrong.
func badChanges() []scrCase {
	l := []scrCase{
		{"everything zero", func(s *impl.Scr) { *s = impl.Scr{} }},
		{"one column more than the grids", func(s *impl.Scr) { s.W = 6 }},
		{"one column less", func(s *impl.Scr) { s.W, s.Tabs = 4, nil }},
		{"one row more than the grids", func(s *impl.Scr) { s.H = 5 }},
		{"one row less", func(s *impl.Scr) { s.H, s.Bot = 3, 2 }},
		{"sides exchanged", func(s *impl.Scr) { s.W, s.H, s.X, s.SaveX, s.Tabs = 4, 5, 0, 0, nil }},
		{"no sides", func(s *impl.Scr) { s.W, s.H = 0, 0 }},
		{"Main too wide", func(s *impl.Scr) { s.Main = numberedGrid(6, 4) }},
		{"Main too high", func(s *impl.Scr) { s.Main = numberedGrid(5, 5) }},
		{"Main too narrow", func(s *impl.Scr) { s.Main = numberedGrid(4, 4) }},
		{"Main too low", func(s *impl.Scr) { s.Main = numberedGrid(5, 3) }},
		{"Main with the sides exchanged", func(s *impl.Scr) { s.Main = numberedGrid(4, 5) }},
		{"Main with other sides and as many cells", func(s *impl.Scr) { s.Main = numberedGrid(10, 2) }},
		{"Main empty", func(s *impl.Scr) { s.Main = impl.Grid{} }},
		{"Main without cells", func(s *impl.Scr) { s.Main.Cells = nil }},
		{"Main with a cell too few", func(s *impl.Scr) { s.Main.Cells = s.Main.Cells[1:] }},
		{"Main with a cell too many", func(s *impl.Scr) { s.Main.Cells = append(s.Main.Cells, blankCell()) }},
		{"Alt too wide", func(s *impl.Scr) { s.Alt = otherGrid(6, 4) }},
		{"Alt too high", func(s *impl.Scr) { s.Alt = otherGrid(5, 5) }},
		{"Alt too narrow", func(s *impl.Scr) { s.Alt = otherGrid(4, 4) }},
		{"Alt too low", func(s *impl.Scr) { s.Alt = otherGrid(5, 3) }},
		{"Alt with the sides exchanged", func(s *impl.Scr) { s.Alt = otherGrid(4, 5) }},
		{"Alt with other sides and as many cells", func(s *impl.Scr) { s.Alt = otherGrid(2, 10) }},
		{"Alt empty", func(s *impl.Scr) { s.Alt = impl.Grid{} }},
		{"Alt without cells", func(s *impl.Scr) { s.Alt.Cells = nil }},
		{"Alt with a cell too few", func(s *impl.Scr) { s.Alt.Cells = s.Alt.Cells[1:] }},
		{"Alt with a cell too many", func(s *impl.Scr) { s.Alt.Cells = append(s.Alt.Cells, blankCell()) }},
		{"both grids larger", func(s *impl.Scr) { s.Main, s.Alt = numberedGrid(6, 5), otherGrid(6, 5) }},
		{"Wrap in the first column", func(s *impl.Scr) { s.X, s.Wrap = 0, true }},
		{"Wrap in the last but one column", func(s *impl.Scr) { s.X, s.Wrap = 3, true }},
		{"Wrap in the last but one column, with NoWrap", func(s *impl.Scr) { s.X, s.Wrap, s.NoWrap = 3, true, true }},
		{"Wrap behind the last column", func(s *impl.Scr) { s.X, s.Wrap = 5, true }},
		{"the limit -1 without rows", func(s *impl.Scr) { s.Limit, s.Back = -1, nil }},
		{"the limit -1", func(s *impl.Scr) { s.Limit = -1 }},
		{"the limit 101", func(s *impl.Scr) { s.Limit = 101 }},
		{"the limit 101 without rows", func(s *impl.Scr) { s.Limit, s.Back = 101, nil }},
		{"the greatest int as limit", func(s *impl.Scr) { s.Limit = math.MaxInt }},
		{"the least int as limit", func(s *impl.Scr) { s.Limit, s.Back = math.MinInt, nil }},
		{"a row more than the limit", func(s *impl.Scr) { s.Limit = 1 }},
		{"a row and the limit 0", func(s *impl.Scr) { s.Limit, s.Back = 0, s.Back[:1] }},
		{"a row more than the greatest limit", func(s *impl.Scr) { s.Limit, s.Back = 100, numberedRows(101) }},
		{"as many rows as a limit that is too great", func(s *impl.Scr) { s.Limit, s.Back = 101, numberedRows(101) }},
		{"many rows", func(s *impl.Scr) { s.Back = numberedRows(1000) }},
	}
	return slices.Concat(l, badCursors(), badRegions(), badTabStops(), badContents())
}

func badCursors() []scrCase {
	var l []scrCase
	for _, n := range append(extremeInts(), -1, -2, -5, 5, 6, 256, 1<<32+1) {
		l = append(l,
			scrCase{fmt.Sprint("the column ", n), func(s *impl.Scr) { s.X = n }},
			scrCase{fmt.Sprint("the column with Wrap ", n), func(s *impl.Scr) { s.X, s.Wrap = n, true }},
			scrCase{fmt.Sprint("the saved column ", n), func(s *impl.Scr) { s.SaveX = n }})
	}
	for _, n := range append(extremeInts(), -1, -2, -4, 4, 5, 256, 1<<32+1) {
		l = append(l,
			scrCase{fmt.Sprint("the row ", n), func(s *impl.Scr) { s.Y = n }},
			scrCase{fmt.Sprint("the saved row ", n), func(s *impl.Scr) { s.SaveY = n }})
	}
	for i, a := range invalidAttrs() {
		l = append(l,
			scrCase{fmt.Sprint("the bad attribute ", i), func(s *impl.Scr) { s.A = a }},
			scrCase{fmt.Sprint("the bad saved attribute ", i), func(s *impl.Scr) { s.SaveA = a }})
	}
	return l
}

func badRegions() []scrCase {
	var l []scrCase
	for _, rows := range [][2]int{
		{-1, 3}, {-1, 0}, {-1, -1}, {0, -1}, {0, 0}, {1, 1}, {2, 2}, {3, 3}, {1, 0}, {3, 0}, {3, 2}, {0, 4}, {3, 4}, {4, 4}, {4, 3}, {4, 5}, {-2, 5},
		{math.MinInt, 3}, {0, math.MaxInt}, {0, math.MinInt}, {math.MaxInt, 3}, {math.MinInt, math.MaxInt}, {math.MaxInt, math.MinInt}, {math.MaxInt, math.MaxInt}, {math.MinInt, math.MinInt},
	} {
		l = append(l, scrCase{fmt.Sprint("the region ", rows), func(s *impl.Scr) { s.Top, s.Bot = rows[0], rows[1] }})
	}
	return l
}

func badTabStops() []scrCase {
	var l []scrCase
	for _, tabs := range [][]int{
		{-1}, {5}, {-1, 0}, {4, 5}, {0, 0}, {4, 4}, {1, 0}, {4, 3}, {0, 2, 2}, {0, 2, 1}, {1, 3, 0}, {0, 1, 2, 3, 4, 4}, {0, 1, 2, 3, 4, 5}, {0, -1, 2},
		{math.MinInt}, {math.MaxInt}, {math.MinInt, 0}, {0, math.MaxInt}, {1 << 32}, {1<<32 + 1}, {8}, {4, 3, 2, 1, 0},
	} {
		l = append(l, scrCase{fmt.Sprint("the tab stops ", tabs), func(s *impl.Scr) { s.Tabs = tabs }})
	}
	return l
}

// badContents are cells, or lengths of rows, that nothing may have.
func badContents() []scrCase {
	var l []scrCase
	for i, c := range invalidCells() {
		l = append(l,
			scrCase{fmt.Sprint("Main with the bad cell ", i), func(s *impl.Scr) { s.Main.Cells[i%20] = c }},
			scrCase{fmt.Sprint("Alt with the bad cell ", i), func(s *impl.Scr) { s.Alt.Cells[i%20] = c }},
			scrCase{fmt.Sprint("a row with the bad cell ", i), func(s *impl.Scr) { s.Back[1].Cells[i%2] = c }})
	}
	for _, n := range []int{0, 121, 122, 4000} {
		for i := range 2 {
			cells := slices.Repeat([]impl.Cell{blankCell()}, n)
			l = append(l, scrCase{fmt.Sprintf("a row %d of %d cells", i, n), func(s *impl.Scr) { s.Back[i].Cells = cells }})
		}
	}
	return append(l,
		scrCase{"the last cell of a row of MaxSide cells bad", func(s *impl.Scr) { s.Back[0].Cells = append(numberedGrid(119, 1).Cells, impl.Cell{}) }},
		scrCase{"the last row of many empty", func(s *impl.Scr) { s.Limit, s.Back = 100, append(numberedRows(99), impl.Row{}) }})
}

func baseScr() impl.Scr {
	s := sampleScr(5, 4, 3, 2)
	s.X, s.Y = 2, 1
	return s
}

func invalidScrs() []impl.Scr {
	var l []impl.Scr
	for _, c := range badChanges() {
		l = append(l, changedScr(baseScr(), c.change))
	}
	return l
}

func TestScreenConstant(t *testing.T) {
	if impl.MaxBack != 100 {
		t.Error("MaxBack has another value")
	}
}

func TestScrOk(t *testing.T) {
	for _, c := range goodChanges() {
		if s := changedScr(baseScr(), c.change); !impl.ScrOk(s) || !modelScrOk(s) {
			t.Errorf("%s: ScrOk is false", c.what)
		}
	}
	for _, c := range badChanges() {
		if s := changedScr(baseScr(), c.change); impl.ScrOk(s) || modelScrOk(s) {
			t.Errorf("%s: ScrOk is true", c.what)
		}
	}
}

func checkScrOk(t *testing.T, s impl.Scr) {
	t.Helper()
	if impl.ScrOk(s) != modelScrOk(s) {
		t.Errorf("ScrOk is %v for %s", !modelScrOk(s), scrText(s))
	}
}

// smallSizes have one row, one column, both, or more.
func smallSizes() [][2]int {
	return [][2]int{{1, 1}, {2, 1}, {5, 1}, {1, 2}, {1, 4}, {2, 2}, {3, 2}, {4, 4}}
}

func edgesOf(n int) []int { return []int{math.MinInt, -1, 0, 1, n - 2, n - 1, n, n + 1, math.MaxInt} }

func TestScrOkOfCursorsTogether(t *testing.T) {
	for _, size := range smallSizes() {
		s := sampleScr(size[0], size[1], 2, 1)
		for _, wrap := range []bool{false, true} {
			s.Wrap = wrap
			for _, s.X = range edgesOf(s.W) {
				for _, s.Y = range edgesOf(s.H) {
					checkScrOk(t, s)
					for _, s.SaveX = range edgesOf(s.W) {
						s.SaveY = s.H - 1
						checkScrOk(t, s)
					}
					s.SaveX = s.W - 1
					for _, s.SaveY = range edgesOf(s.H) {
						checkScrOk(t, s)
					}
					s.SaveY = 0
				}
			}
		}
	}
}

func TestScrOkOfRegions(t *testing.T) {
	for _, size := range append(smallSizes(), [2]int{120, 33}, [2]int{33, 120}) {
		s := sampleScr(size[0], size[1], 2, 1)
		for _, s.Top = range edgesOf(s.H) {
			for _, s.Bot = range edgesOf(s.H) {
				checkScrOk(t, s)
			}
		}
	}
}

func TestScrOkOfTabStops(t *testing.T) {
	s := sampleScr(4, 2, 2, 1)
	for n := range 7 * 7 * 7 {
		s.Tabs = []int{n%7 - 2, n/7%7 - 2, n/49 - 2}
		for _, s.Tabs = range [][]int{s.Tabs, s.Tabs[:2], s.Tabs[:1]} {
			checkScrOk(t, s)
		}
	}
	wide := sampleScr(120, 2, 2, 1)
	wide.Tabs = nil
	for x := range 120 {
		wide.Tabs = append(wide.Tabs, x)
		checkScrOk(t, wide)
	}
	wide.Tabs = append(wide.Tabs, 120)
	checkScrOk(t, wide)
}

func TestScrOkOfLimitsAndBack(t *testing.T) {
	s := sampleScr(3, 2, 0, 0)
	for _, s.Limit = range append(extremeInts(), -2, -1, 0, 1, 2, 50, 99, 100, 101, 102) {
		for _, n := range []int{0, 1, 2, 3, 49, 50, 51, 99, 100, 101, 102} {
			s.Back = numberedRows(n)
			checkScrOk(t, s)
		}
	}
	s.Limit = 1
	for n := range 130 {
		s.Back = []impl.Row{{Cells: slices.Repeat([]impl.Cell{blankCell()}, n)}}
		checkScrOk(t, s)
	}
}

func TestScrOkOfScreensAtTheLimits(t *testing.T) {
	for _, size := range [][2]int{{120, 33}, {33, 120}, {100, 40}, {40, 100}, {120, 1}, {1, 120}} {
		s := sampleScr(size[0], size[1], 100, 100)
		if !impl.ScrOk(s) {
			t.Errorf("ScrOk is false for a screen of %d, %d", s.W, s.H)
		}
	}
	// These are too large, but nothing else is wrong with them.
	for _, size := range [][2]int{{121, 1}, {1, 121}, {121, 33}, {120, 34}, {101, 40}, {4000, 1}} {
		s := impl.Scr{W: size[0], H: size[1], Bot: size[1] - 1, Main: blankGrid(size[0], size[1]), Alt: blankGrid(size[0], size[1])}
		if impl.ScrOk(s) {
			t.Errorf("ScrOk is true for a screen of %d, %d", s.W, s.H)
		}
	}
}

func modelTabs(w int) []int {
	var l []int
	for x := range w {
		if x > 0 && x%8 == 0 {
			l = append(l, x)
		}
	}
	return l
}

func checkScrNew(t *testing.T, w int, h int, limit int) {
	t.Helper()
	s, ok := impl.ScrNew(w, h, limit)
	what := fmt.Sprintf("ScrNew(%d, %d, %d)", w, h, limit)
	want := modelSize(w, h) && limit >= 0 && limit <= 100
	if ok != want {
		t.Errorf("%s returns %v", what, ok)
	}
	if !want {
		wantNoScr(t, what, s)
		return
	}
	wantScr(t, what, s, impl.Scr{W: w, H: h, Main: blankGrid(w, h), Alt: blankGrid(w, h), Bot: h - 1, Tabs: modelTabs(w), Limit: limit})
	if !impl.ScrOk(s) {
		t.Errorf("%s is not valid", what)
	}
}

func TestScrNewOfAllWidthsAndHeights(t *testing.T) {
	for n := -3; n <= 125; n++ {
		for _, m := range []int{-1, 0, 1, 2, 8, 9, 33, 34, 120, 121} {
			checkScrNew(t, n, m, 50)
			checkScrNew(t, m, n, 50)
		}
	}
}

func TestScrNewAtItsLimits(t *testing.T) {
	sizes := append(badSizes(), [2]int{1, 1}, [2]int{8, 8}, [2]int{9, 9}, [2]int{16, 17}, [2]int{100, 40}, [2]int{40, 100}, [2]int{80, 50}, [2]int{50, 80}, [2]int{120, 33}, [2]int{33, 120})
	for _, size := range sizes {
		for _, limit := range []int{-1, 0, 100, 101} {
			checkScrNew(t, size[0], size[1], limit)
		}
	}
	for _, limit := range append(extremeInts(), -2, -1, 0, 1, 2, 99, 100, 101, 102, 256, 1<<32+5) {
		checkScrNew(t, 20, 3, limit)
		checkScrNew(t, 1, 1, limit)
		checkScrNew(t, 0, 0, limit)
	}
}

func TestTabStopsOfNewScreens(t *testing.T) {
	for w, want := range map[int][]int{1: nil, 7: nil, 8: nil, 9: {8}, 16: {8}, 17: {8, 16}, 24: {8, 16}, 25: {8, 16, 24}, 120: {8, 16, 24, 32, 40, 48, 56, 64, 72, 80, 88, 96, 104, 112}} {
		if s := newScr(t, w, 2, 0); !slices.Equal(s.Tabs, want) {
			t.Errorf("a new screen of %d columns has the tab stops %d; want %d", w, s.Tabs, want)
		}
	}
}

func TestShown(t *testing.T) {
	for _, c := range goodChanges() {
		s := changedScr(baseScr(), c.change)
		s.OnAlt = false
		wantGrid(t, c.what+": Main", impl.Shown(s), s.Main)
		s.OnAlt = true
		wantGrid(t, c.what+": Alt", impl.Shown(s), s.Alt)
	}
	for _, size := range append(smallSizes(), [2]int{120, 33}, [2]int{33, 120}) {
		s := sampleScr(size[0], size[1], 100, 100)
		wantGrid(t, "Main", impl.Shown(s), numberedGrid(s.W, s.H))
		s.OnAlt = true
		wantGrid(t, "Alt", impl.Shown(s), otherGrid(s.W, s.H))
	}
}

// TestShownOfInvalidScreens: one bad grid is enough, also if the other one is shown.
func TestShownOfInvalidScreens(t *testing.T) {
	for _, c := range badChanges() {
		s := changedScr(baseScr(), c.change)
		wantNoGrid(t, c.what, impl.Shown(s))
		s.OnAlt = true
		wantNoGrid(t, c.what+", Alt", impl.Shown(s))
	}
}

func modelGrid(s *impl.Scr) *impl.Grid {
	return map[bool]*impl.Grid{false: &s.Main, true: &s.Alt}[s.OnAlt]
}

func modelDown(s impl.Scr) impl.Scr {
	s = deepScr(s)
	s.Wrap = false
	switch {
	case s.Y == s.Bot:
		g := modelGrid(&s)
		if !s.OnAlt && s.Top == 0 {
			s.Back = append(s.Back, impl.Row{Cells: slices.Clone(g.Cells[:s.W])})
			s.Back = s.Back[max(0, len(s.Back)-s.Limit):]
		}
		*g = modelRoll(*g, s.Top, s.Bot, 1)
	case s.Y < s.H-1:
		s.Y++
	}
	return s
}

func modelUp(s impl.Scr) impl.Scr {
	s = deepScr(s)
	s.Wrap = false
	switch {
	case s.Y == s.Top:
		g := modelGrid(&s)
		*g = modelRoll(*g, s.Top, s.Bot, -1)
	case s.Y > 0:
		s.Y--
	}
	return s
}

func modelWrite(s impl.Scr, r int) impl.Scr {
	s = deepScr(s)
	if !modelShows(r) {
		return s
	}
	if s.Wrap {
		s = modelDown(s)
		s.X = 0
	}
	modelGrid(&s).Cells[s.Y*s.W+s.X] = impl.Cell{R: r, A: s.A}
	if s.X < s.W-1 {
		s.X++
	} else if !s.NoWrap {
		s.Wrap = true
	}
	return s
}

func modelCtl(s impl.Scr, b int) impl.Scr {
	switch b {
	case 8:
		return modelGo(s, s.X-1, s.Y)
	case 9:
		for x := s.X + 1; x < s.W; x++ {
			if slices.Contains(s.Tabs, x) {
				return modelGo(s, x, s.Y)
			}
		}
		return modelGo(s, s.W-1, s.Y)
	case 10, 11, 12:
		return modelDown(s)
	case 13:
		return modelGo(s, 0, s.Y)
	}
	return deepScr(s)
}

// modelGo looks for the existing column and row that are nearest.
func modelGo(s impl.Scr, x int, y int) impl.Scr {
	s = deepScr(s)
	s.Wrap = false
	s.X, s.Y = nearest(x, s.W), nearest(y, s.H)
	return s
}

func nearest(at int, count int) int {
	switch {
	case at < 0:
		return 0
	case at >= count:
		return count - 1
	}
	return at
}

// scrCall is a function of a screen, and what it is compared with.
type scrCall struct {
	what  string
	call  func(s impl.Scr) impl.Scr
	model func(s impl.Scr) impl.Scr
}

func runeCall(r int) scrCall {
	return scrCall{fmt.Sprintf("ScrRune of %d", r), func(s impl.Scr) impl.Scr { return impl.ScrRune(s, r) }, func(s impl.Scr) impl.Scr { return modelWrite(s, r) }}
}

func ctlCall(b int) scrCall {
	return scrCall{fmt.Sprintf("ScrCtl of %d", b), func(s impl.Scr) impl.Scr { return impl.ScrCtl(s, b) }, func(s impl.Scr) impl.Scr { return modelCtl(s, b) }}
}

func goCall(x int, y int) scrCall {
	return scrCall{fmt.Sprintf("ScrGo to %d, %d", x, y), func(s impl.Scr) impl.Scr { return impl.ScrGo(s, x, y) }, func(s impl.Scr) impl.Scr { return modelGo(s, x, y) }}
}

func downCall() scrCall { return scrCall{"ScrDown", impl.ScrDown, modelDown} }

func upCall() scrCall { return scrCall{"ScrUp", impl.ScrUp, modelUp} }

// movingCalls are those that may change a screen, one of each kind.
func movingCalls() []scrCall {
	l := []scrCall{downCall(), upCall(), runeCall('x'), runeCall(32), runeCall(65535), runeCall(127), goCall(0, 0), goCall(1, 1), goCall(-1, 500)}
	for b := 7; b <= 14; b++ {
		l = append(l, ctlCall(b))
	}
	return l
}

// checkCall compares one call with its model, and asks that the result is valid. It looks no further once a test has failed.
func checkCall(t *testing.T, c scrCall, s impl.Scr) impl.Scr {
	t.Helper()
	got, want := c.call(s), c.model(s)
	if !equalScrs(got, want) || !impl.ScrOk(got) || !modelScrOk(got) {
		wantScr(t, fmt.Sprintf("%s of %s", c.what, scrText(s)), got, want)
		t.Fatalf("%s: the result is valid: %v", c.what, impl.ScrOk(got))
	}
	return got
}

// cursorStates calls check with the screen in every combination of cursor, Wrap, NoWrap, shown grid and region.
func cursorStates(s impl.Scr, check func(s impl.Scr)) {
	for n := range 8 * s.W * s.H {
		s.OnAlt, s.NoWrap, s.Wrap = n%2 == 1, n/2%2 == 1, n/4%2 == 1
		s.X, s.Y = n/8%s.W, n/8/s.W
		if s.Wrap && s.X < s.W-1 {
			continue
		}
		for s.Top = range s.H {
			for s.Bot = s.Top; s.Bot < s.H; s.Bot++ {
				if s.Bot > s.Top || s.H == 1 {
					check(s)
				}
			}
		}
	}
}

// backs are limits, and numbers of rows in the scrollback.
func backs() [][2]int { return [][2]int{{0, 0}, {1, 0}, {1, 1}, {3, 0}, {3, 2}, {3, 3}} }

func TestAllCursorsAndRegions(t *testing.T) {
	for _, size := range smallSizes() {
		for _, b := range backs() {
			cursorStates(sampleScr(size[0], size[1], b[0], b[1]), func(s impl.Scr) {
				for _, c := range movingCalls() {
					checkCall(t, c, s)
				}
			})
		}
	}
}

func TestLargeScreens(t *testing.T) {
	for _, size := range [][2]int{{120, 33}, {33, 120}, {120, 1}, {1, 120}} {
		for _, b := range [][2]int{{100, 99}, {100, 100}, {0, 0}} {
			s := sampleScr(size[0], size[1], b[0], b[1])
			for _, at := range [][2]int{{0, 0}, {s.W - 1, s.H - 1}, {s.W / 2, s.H / 2}} {
				s.X, s.Y = at[0], at[1]
				s.Wrap = s.X == s.W-1
				for _, c := range movingCalls() {
					checkCall(t, c, s)
				}
			}
		}
	}
}

func rowText(row impl.Row) string {
	text := ""
	for _, c := range row.Cells {
		text += string(rune(c.R))
	}
	return text
}

// wantKnown expects the cursor, the shown text, with `|` for the end of a row, and the scrollback.
func wantKnown(t *testing.T, what string, s impl.Scr, x int, y int, wrap bool, text string, back ...string) {
	t.Helper()
	var rows []string
	for _, row := range s.Back {
		rows = append(rows, strings.TrimRight(rowText(row), " "))
	}
	shown := strings.ReplaceAll(impl.GridText(impl.Shown(s)), "\n", "|")
	if s.X != x || s.Y != y || s.Wrap != wrap || shown != text || !slices.Equal(rows, back) {
		t.Errorf("%s: the cursor is at %d, %d with Wrap %v, the text is %q and the scrollback %q; want %d, %d, %v, %q, %q", what, s.X, s.Y, s.Wrap, shown, rows, x, y, wrap, text, back)
	}
}

// write plays a text: control bytes as such, everything else as runes.
func write(s impl.Scr, text string) impl.Scr {
	for _, r := range text {
		if r < 32 {
			s = impl.ScrCtl(s, int(r))
		} else {
			s = impl.ScrRune(s, int(r))
		}
	}
	return s
}

// letterScr shows rows of the letters a, b, c and so on, with the cursor at 0, 0.
func letterScr(t *testing.T, w int, h int, limit int) impl.Scr {
	s := newScr(t, w, h, limit)
	for y := range h {
		s = write(impl.ScrGo(s, 0, y), string(rune('a'+y)))
	}
	return impl.ScrGo(s, 0, 0)
}

func TestScrDownKnown(t *testing.T) {
	s := letterScr(t, 3, 4, 2)
	wantKnown(t, "from the first row", impl.ScrDown(s), 0, 1, false, "a|b|c|d|")
	s = impl.ScrGo(s, 1, 3)
	wantKnown(t, "in the last row", impl.ScrDown(s), 1, 3, false, "b|c|d||", "a")
	wantKnown(t, "twice", impl.ScrDown(impl.ScrDown(s)), 1, 3, false, "c|d|||", "a", "b")
	wantKnown(t, "three times, up to the limit", impl.ScrDown(impl.ScrDown(impl.ScrDown(s))), 1, 3, false, "d||||", "b", "c")
	region := changedScr(s, func(s *impl.Scr) { s.Top, s.Bot = 0, 2 })
	wantKnown(t, "below the region, in the last row of the screen", impl.ScrDown(region), 1, 3, false, "a|b|c|d|")
	region.Y = 2
	wantKnown(t, "in the last row of the region", impl.ScrDown(region), 1, 2, false, "b|c||d|", "a")
	region.Y = 1
	wantKnown(t, "inside the region", impl.ScrDown(region), 1, 2, false, "a|b|c|d|")
	lower := changedScr(s, func(s *impl.Scr) { s.Top, s.Bot = 1, 2 })
	lower.Y = 2
	wantKnown(t, "in a region that does not begin at the top", impl.ScrDown(lower), 1, 2, false, "a|c||d|")
	lower.Y = 0
	wantKnown(t, "above the region", impl.ScrDown(lower), 1, 1, false, "a|b|c|d|")
	lower.Y = 3
	wantKnown(t, "below the lower region", impl.ScrDown(lower), 1, 3, false, "a|b|c|d|")
	none := changedScr(s, func(s *impl.Scr) { s.Limit = 0 })
	wantKnown(t, "with the limit 0", impl.ScrDown(none), 1, 3, false, "b|c|d||")
	one := changedScr(s, func(s *impl.Scr) { s.Limit = 1 })
	wantKnown(t, "with the limit 1", impl.ScrDown(impl.ScrDown(one)), 1, 3, false, "c|d|||", "b")
	alt := changedScr(s, func(s *impl.Scr) { s.OnAlt, s.Main, s.Alt = true, blankGrid(3, 4), s.Main })
	wantKnown(t, "on Alt", impl.ScrDown(alt), 1, 3, false, "b|c|d||")
	wrap := changedScr(s, func(s *impl.Scr) { s.X, s.Wrap = 2, true })
	wantKnown(t, "with Wrap", impl.ScrDown(wrap), 2, 3, false, "b|c|d||", "a")
	wrap.Y = 0
	wantKnown(t, "with Wrap in the first row", impl.ScrDown(wrap), 2, 1, false, "a|b|c|d|")
	wantKnown(t, "on one row", impl.ScrDown(letterScr(t, 3, 1, 5)), 0, 0, false, "|", "a")
}

func TestScrUpKnown(t *testing.T) {
	s := letterScr(t, 3, 4, 2)
	wantKnown(t, "in the first row", impl.ScrUp(s), 0, 0, false, "|a|b|c|")
	s = impl.ScrGo(s, 1, 3)
	wantKnown(t, "from the last row", impl.ScrUp(s), 1, 2, false, "a|b|c|d|")
	region := changedScr(s, func(s *impl.Scr) { s.Top, s.Bot = 1, 2 })
	wantKnown(t, "below the region", impl.ScrUp(region), 1, 2, false, "a|b|c|d|")
	region.Y = 2
	wantKnown(t, "inside the region", impl.ScrUp(region), 1, 1, false, "a|b|c|d|")
	region.Y = 1
	wantKnown(t, "in the first row of the region", impl.ScrUp(region), 1, 1, false, "a||b|d|")
	region.Y = 0
	wantKnown(t, "above the region, in the first row of the screen", impl.ScrUp(region), 1, 0, false, "a|b|c|d|")
	wrap := changedScr(s, func(s *impl.Scr) { s.X, s.Y, s.Wrap = 2, 0, true })
	wantKnown(t, "with Wrap", impl.ScrUp(wrap), 2, 0, false, "|a|b|c|")
	wrap.Y = 2
	wantKnown(t, "with Wrap inside", impl.ScrUp(wrap), 2, 1, false, "a|b|c|d|")
	wantKnown(t, "on one row", impl.ScrUp(letterScr(t, 3, 1, 5)), 0, 0, false, "|")
	full := impl.ScrDown(impl.ScrDown(s))
	wantKnown(t, "with a scrollback, which does not come back", impl.ScrUp(impl.ScrGo(full, 0, 0)), 0, 0, false, "|c|d||", "a", "b")
}

func TestScrRuneKnown(t *testing.T) {
	s := newScr(t, 3, 2, 2)
	wantKnown(t, "one rune", write(s, "a"), 1, 0, false, "a||")
	wantKnown(t, "two runes", write(s, "ab"), 2, 0, false, "ab||")
	wantKnown(t, "a full row", write(s, "abc"), 2, 0, true, "abc||")
	wantKnown(t, "a rune more", write(s, "abcd"), 1, 1, false, "abc|d|")
	wantKnown(t, "a full screen", write(s, "abcdef"), 2, 1, true, "abc|def|")
	wantKnown(t, "a rune that scrolls", write(s, "abcdefg"), 1, 1, false, "def|g|", "abc")
	wantKnown(t, "up to the limit", write(s, "abcdefghijklmno"), 2, 1, true, "jkl|mno|", "def", "ghi")
	wantKnown(t, "a full row and a new one", write(s, "abc\r\nd"), 1, 1, false, "abc|d|")
	wantKnown(t, "over what is there", write(s, "abc\rx"), 1, 0, false, "xbc||")
	wantKnown(t, "spaces too", write(s, "abc\r  "), 2, 0, false, "  c||")
	wantKnown(t, "back from a full row", write(s, "abc\bx"), 2, 0, false, "axc||")
	wantKnown(t, "back from the column before", write(s, "ab\bx"), 2, 0, false, "ax||")
	wantKnown(t, "wide encodings occupy one cell", write(s, "\u00e4\u4e2d\uffff\u00a0"), 1, 1, false, "\u00e4\u4e2d\uffff|\u00a0|")
	wantKnown(t, "ScrGo ends Wrap", write(impl.ScrGo(write(s, "abc"), 2, 0), "x"), 2, 0, true, "abx||")
	n := changedScr(s, func(s *impl.Scr) { s.NoWrap = true })
	wantKnown(t, "a full row without wrapping", write(n, "abc"), 2, 0, false, "abc||")
	wantKnown(t, "the last column again and again", write(n, "abcdef"), 2, 0, false, "abf||")
	// Wrap that is pending when NoWrap comes is still carried out.
	pending := changedScr(write(s, "abc"), func(s *impl.Scr) { s.NoWrap = true })
	wantKnown(t, "NoWrap with Wrap", write(pending, "def"), 2, 1, false, "abc|def|")
	wantKnown(t, "one column", write(newScr(t, 1, 3, 5), "abcd"), 0, 2, true, "b|c|d|", "a")
	wantKnown(t, "one cell", write(newScr(t, 1, 1, 2), "abcd"), 0, 0, true, "d|", "b", "c")
	wantKnown(t, "one cell without wrapping", write(changedScr(newScr(t, 1, 1, 2), func(s *impl.Scr) { s.NoWrap = true }), "abcd"), 0, 0, false, "d|")
	wantKnown(t, "one row", write(newScr(t, 2, 1, 5), "abcde"), 1, 0, false, "e|", "ab", "cd")
}

func TestScrRuneInARegion(t *testing.T) {
	s := letterScr(t, 2, 5, 9)
	s.Top, s.Bot = 1, 3
	wantKnown(t, "in the last row of the region", write(impl.ScrGo(s, 1, 3), "xyz"), 1, 3, true, "a|c|dx|yz|e|")
	wantKnown(t, "in the last row of the screen", write(impl.ScrGo(s, 1, 4), "xyz"), 1, 4, true, "a|b|c|d|yz|")
	wantKnown(t, "above the region", write(impl.ScrGo(s, 1, 0), "xyz"), 1, 1, true, "ax|yz|c|d|e|")
	wantKnown(t, "in the region", write(impl.ScrGo(s, 1, 2), "xyz"), 1, 3, true, "a|b|cx|yz|e|")
	s.Top = 0
	wantKnown(t, "in a region at the top", write(impl.ScrGo(s, 1, 3), "xyz"), 1, 3, true, "b|c|dx|yz|e|", "a")
	s.OnAlt, s.Alt, s.Main = true, s.Main, otherGrid(2, 5)
	alt := write(impl.ScrGo(s, 1, 3), "xyz")
	wantKnown(t, "on Alt", alt, 1, 3, true, "b|c|dx|yz|e|")
	wantGrid(t, "Main while Alt is shown", alt.Main, otherGrid(2, 5))
}

// TestScrRuneWritesWithTheAttribute looks at every cell of the screen.
func TestScrRuneWritesWithTheAttribute(t *testing.T) {
	for _, a := range validAttrs() {
		for _, onAlt := range []bool{false, true} {
			s := sampleScr(3, 2, 1, 1)
			s.X, s.Y, s.A, s.OnAlt = 1, 1, a, onAlt
			got, want := impl.ScrRune(s, 20013), deepScr(s)
			modelGrid(&want).Cells[4] = impl.Cell{R: 20013, A: a}
			want.X = 2
			wantScr(t, fmt.Sprintf("the attribute %+v", a), got, want)
		}
	}
}

// TestScrollingLeavesBlanksOfTheDefaultAttribute: the current attribute counts for runes only.
func TestScrollingLeavesBlanksOfTheDefaultAttribute(t *testing.T) {
	s := sampleScr(3, 2, 1, 0)
	s.A = impl.Attr{Fg: 2, Bg: 4, Turn: true}
	for _, got := range []impl.Scr{impl.ScrDown(changedScr(s, func(s *impl.Scr) { s.Y = 1 })), impl.ScrUp(s)} {
		blanks := 0
		for _, c := range got.Main.Cells {
			if c == blankCell() {
				blanks++
			}
		}
		if blanks != 3 {
			t.Errorf("%d blanks after scrolling; want 3", blanks)
		}
	}
}

func TestScrRuneOfEveryRune(t *testing.T) {
	s := newScr(t, 2, 1, 0)
	for r := -300; r < 70000; r++ {
		want := impl.Cell{R: 32}
		if modelShows(r) {
			want.R = r
		}
		got := impl.ScrRune(s, r)
		if c := impl.GridAt(impl.Shown(got), 0, 0); c != want || (got.X == 1) != modelShows(r) {
			t.Fatalf("ScrRune of %d writes %+v, and X is %d; want %+v", r, c, got.X, want)
		}
	}
}

// TestRunesThatAreNotPrintableChangeNothing, not even if Wrap is true.
func TestRunesThatAreNotPrintableChangeNothing(t *testing.T) {
	for _, r := range append(notRunes(), extremeInts()...) {
		for _, size := range smallSizes() {
			s := sampleScr(size[0], size[1], 2, 2)
			wantScr(t, fmt.Sprint("the rune ", r), impl.ScrRune(s, r), s)
			s.X, s.Y, s.Wrap = s.W-1, s.H-1, true
			wantScr(t, fmt.Sprint("the rune with Wrap ", r), impl.ScrRune(s, r), s)
		}
	}
}

func TestScrCtlKnown(t *testing.T) {
	s := impl.ScrGo(letterScr(t, 20, 2, 2), 5, 1)
	wantKnown(t, "8", impl.ScrCtl(s, 8), 4, 1, false, "a|b|")
	wantKnown(t, "8 at the left", impl.ScrCtl(impl.ScrGo(s, 0, 1), 8), 0, 1, false, "a|b|")
	wantKnown(t, "9", impl.ScrCtl(s, 9), 8, 1, false, "a|b|")
	wantKnown(t, "10", impl.ScrCtl(s, 10), 5, 1, false, "b||", "a")
	wantKnown(t, "11", impl.ScrCtl(s, 11), 5, 1, false, "b||", "a")
	wantKnown(t, "12", impl.ScrCtl(s, 12), 5, 1, false, "b||", "a")
	wantKnown(t, "13", impl.ScrCtl(s, 13), 0, 1, false, "a|b|")
	wrap := changedScr(s, func(s *impl.Scr) { s.X, s.Wrap = 19, true })
	wantKnown(t, "8 with Wrap", impl.ScrCtl(wrap, 8), 18, 1, false, "a|b|")
	wantKnown(t, "9 with Wrap", impl.ScrCtl(wrap, 9), 19, 1, false, "a|b|")
	wantKnown(t, "10 with Wrap", impl.ScrCtl(wrap, 10), 19, 1, false, "b||", "a")
	wantKnown(t, "13 with Wrap", impl.ScrCtl(wrap, 13), 0, 1, false, "a|b|")
	wantKnown(t, "7 with Wrap", impl.ScrCtl(wrap, 7), 19, 1, true, "a|b|")
	narrow := changedScr(letterScr(t, 1, 1, 2), func(s *impl.Scr) { s.Wrap = true })
	for _, b := range []int{8, 9, 13} {
		wantKnown(t, fmt.Sprint("one column with Wrap: ", b), impl.ScrCtl(narrow, b), 0, 0, false, "a|")
	}
}

func TestTabStops(t *testing.T) {
	for _, tabs := range [][]int{nil, {}, {0}, {1}, {11}, {0, 11}, {0, 4, 8}, {4, 8}, {3, 4, 5}, {8, 11}, {0, 1, 2, 3, 4, 5, 6, 7, 8, 9, 10, 11}} {
		s := sampleScr(12, 2, 1, 1)
		s.Tabs = tabs
		for s.X = range 12 {
			checkCall(t, ctlCall(9), s)
		}
		s.X, s.Wrap = 11, true
		checkCall(t, ctlCall(9), s)
	}
	columns := func(s impl.Scr) []int {
		var l []int
		for range 5 {
			s = impl.ScrCtl(s, 9)
			l = append(l, s.X)
		}
		return l
	}
	s := newScr(t, 30, 2, 0)
	if got := columns(s); !slices.Equal(got, []int{8, 16, 24, 29, 29}) {
		t.Errorf("tabulators lead to the columns %d", got)
	}
	s.Tabs = []int{3, 4, 28}
	if got := columns(s); !slices.Equal(got, []int{3, 4, 28, 29, 29}) {
		t.Errorf("tabulators with other stops lead to the columns %d", got)
	}
}

func TestOtherControlBytesHaveNoEffect(t *testing.T) {
	for _, b := range append(notBytes(), allBytes()...) {
		if b >= 8 && b <= 13 {
			continue
		}
		s := sampleScr(4, 3, 2, 2)
		wantScr(t, fmt.Sprint("the byte ", b), impl.ScrCtl(s, b), s)
		s.X, s.Y, s.Wrap = 3, 2, true
		wantScr(t, fmt.Sprint("the byte with Wrap ", b), impl.ScrCtl(s, b), s)
	}
}

func TestScrGo(t *testing.T) {
	for _, size := range smallSizes() {
		s := sampleScr(size[0], size[1], 2, 1)
		for _, wrap := range []bool{false, true} {
			s.X, s.Y, s.Wrap = s.W-1, s.H-1, wrap
			for _, x := range append(extremeInts(), edgesOf(s.W)...) {
				for _, y := range append(extremeInts(), edgesOf(s.H)...) {
					checkCall(t, goCall(x, y), s)
				}
			}
			for x := -2; x <= s.W+1; x++ {
				for y := -2; y <= s.H+1; y++ {
					checkCall(t, goCall(x, y), s)
				}
			}
		}
	}
}

// TestScrGoIgnoresTheRegion: only the screen limits the cursor.
func TestScrGoIgnoresTheRegion(t *testing.T) {
	s := sampleScr(5, 6, 2, 1)
	s.Top, s.Bot, s.Y = 2, 3, 2
	for _, c := range [][4]int{{0, 0, 0, 0}, {4, 5, 4, 5}, {5, 6, 4, 5}, {-1, -1, 0, 0}, {3, 1, 3, 1}, {2, 4, 2, 4}, {math.MaxInt, math.MinInt, 4, 0}, {math.MinInt, math.MaxInt, 0, 5}} {
		want := deepScr(s)
		want.X, want.Y = c[2], c[3]
		wantScr(t, fmt.Sprint("ScrGo ", c), impl.ScrGo(s, c[0], c[1]), want)
	}
}

func TestScreenFunctionsRejectInvalidScreens(t *testing.T) {
	calls := append(movingCalls(), runeCall(-1), runeCall(math.MinInt), runeCall(math.MaxInt), ctlCall(-1), ctlCall(0), ctlCall(256), ctlCall(math.MinInt), goCall(math.MaxInt, math.MinInt))
	wantRejected(t, calls)
}

// wantRejected expects the zero value of each call for each kind of invalid screen.
func wantRejected(t *testing.T, calls []scrCall) {
	t.Helper()
	for _, c := range badChanges() {
		s := changedScr(baseScr(), c.change)
		for _, onAlt := range []bool{false, true} {
			s.OnAlt = onAlt && !equalScrs(s, impl.Scr{})
			for _, call := range calls {
				wantNoScr(t, call.what+" with "+c.what, call.call(s))
			}
		}
	}
}

// chunks cuts a text into pieces of n bytes, of which the last may be shorter.
func chunks(text string, n int) []string {
	var l []string
	for part := range slices.Chunk([]byte(text), n) {
		l = append(l, string(part))
	}
	return l
}

func letters(n int) string {
	var b strings.Builder
	for i := range n {
		b.WriteByte(byte('a' + i%26))
	}
	return b.String()
}

// TestWhatIsWrittenIsDisplayedOrInTheScrollback is the part of P7 about screens: the rows are those of the text, the last ones displayed and the others kept, up to the limit.
func TestWhatIsWrittenIsDisplayedOrInTheScrollback(t *testing.T) {
	for _, size := range smallSizes() {
		for _, limit := range []int{0, 1, 2, 7, 100} {
			for n := 1; n <= 6*size[0]*size[1]+3; n++ {
				checkWritten(t, newScr(t, size[0], size[1], limit), chunks(letters(n), size[0]), letters(n))
			}
		}
	}
	checkWritten(t, newScr(t, 40, 10, 100), chunks(letters(4703), 40), letters(4703))
	var lines []string
	for i := range 140 {
		lines = append(lines, fmt.Sprint("line ", i))
		for _, limit := range []int{0, 1, 5, 100} {
			checkWritten(t, newScr(t, 12, 4, limit), lines, strings.Join(lines, "\r\n"))
		}
	}
}

// checkWritten plays the text and expects its rows from a new screen on.
func checkWritten(t *testing.T, s impl.Scr, rows []string, text string) {
	t.Helper()
	s = write(s, text)
	gone := max(0, len(rows)-s.H)
	want := strings.Join(rows[gone:], "\n") + strings.Repeat("\n", s.H-len(rows)+gone+1)
	if got := impl.GridText(impl.Shown(s)); got != want {
		t.Errorf("a screen of %d, %d displays %q; want %q", s.W, s.H, got, want)
	}
	var back []string
	for _, row := range s.Back {
		if len(row.Cells) != s.W {
			t.Errorf("a row of %d cells on a screen of %d columns", len(row.Cells), s.W)
		}
		back = append(back, strings.TrimRight(rowText(row), " "))
	}
	if kept := rows[max(0, gone-s.Limit):gone]; !slices.Equal(back, kept) {
		t.Errorf("the scrollback of a screen of %d, %d with the limit %d is %q; want %q", s.W, s.H, s.Limit, back, kept)
	}
	if !impl.ScrOk(s) {
		t.Errorf("the screen is not valid: %s", scrText(s))
	}
}

// TestTheScrollbackHasTheAttributes: cells are kept whole.
func TestTheScrollbackHasTheAttributes(t *testing.T) {
	s := newScr(t, 9, 1, 100)
	var want []impl.Row
	attrs := validAttrs()
	for i := range 100 {
		row := impl.Row{}
		for x := range 9 {
			c := impl.Cell{R: 500 + 10*i + x, A: attrs[(i*9+x)%len(attrs)]}
			s.A = c.A
			s = impl.ScrRune(s, c.R)
			row.Cells = append(row.Cells, c)
		}
		want = append(want, row)
	}
	s = impl.ScrDown(s)
	if !slices.EqualFunc(s.Back, want, equalRows) {
		t.Errorf("the scrollback is not what was written")
	}
	s = impl.ScrDown(s)
	if !slices.EqualFunc(s.Back[:99], want[1:], equalRows) || !equalRows(s.Back[99], impl.Row{Cells: blankGrid(9, 1).Cells}) {
		t.Errorf("the scrollback is not what was written, without its oldest row")
	}
}

// TestAltAndMainAreIndependent: nothing that happens on one of them changes the other, and Alt has no scrollback.
func TestAltAndMainAreIndependent(t *testing.T) {
	s := sampleScr(4, 3, 5, 2)
	for _, onAlt := range []bool{false, true} {
		s.OnAlt = onAlt
		after := write(s, "some text\nthat scrolls\r\nfar more than the screen has rows\b\b\t.")
		after = impl.ScrUp(impl.ScrUp(impl.ScrGo(after, 0, 0)))
		if onAlt {
			wantGrid(t, "Main", after.Main, s.Main)
			if !slices.EqualFunc(after.Back, s.Back, equalRows) || equalGrids(after.Alt, s.Alt) {
				t.Error("Alt has scrolled into Back, or not at all")
			}
			continue
		}
		wantGrid(t, "Alt", after.Alt, s.Alt)
		if len(after.Back) != 5 || equalGrids(after.Main, s.Main) {
			t.Error("Main has not scrolled into Back")
		}
	}
}

func randomScr(r *rand.Rand) impl.Scr {
	w, h := 1+r.Intn(9), 1+r.Intn(6)
	s := impl.Scr{W: w, H: h, Bot: h - 1, Limit: r.Intn(6)}
	s.Main = gridBy(w, h, func(x, y int) impl.Cell { return randomCell(r) })
	s.Alt = gridBy(w, h, func(x, y int) impl.Cell { return randomCell(r) })
	for range r.Intn(s.Limit + 1) {
		s.Back = append(s.Back, impl.Row{Cells: gridBy(1+r.Intn(10), 1, func(x, y int) impl.Cell { return randomCell(r) }).Cells})
	}
	for x := range w {
		if r.Intn(3) == 0 {
			s.Tabs = append(s.Tabs, x)
		}
	}
	s.X, s.Y, s.SaveX, s.SaveY = r.Intn(w), r.Intn(h), r.Intn(w), r.Intn(h)
	s.A, s.SaveA = someAttrs()[r.Intn(9)], someAttrs()[r.Intn(9)]
	return s
}

// setModes changes what this chapter has no function for.
func setModes(r *rand.Rand, s impl.Scr) impl.Scr {
	s = deepScr(s)
	switch r.Intn(4) {
	case 0:
		s.OnAlt = !s.OnAlt
	case 1:
		s.NoWrap = !s.NoWrap
	case 2:
		s.A = someAttrs()[r.Intn(9)]
	case 3:
		s.Top = r.Intn(s.H)
		s.Bot = s.Top + r.Intn(s.H-s.Top)
		if s.Top == s.Bot {
			s.Top, s.Bot = 0, s.H-1
		}
	}
	return s
}

func randomCall(r *rand.Rand, s impl.Scr) scrCall {
	switch r.Intn(10) {
	case 0:
		return downCall()
	case 1:
		return upCall()
	case 2:
		return goCall(r.Intn(s.W+4)-2, r.Intn(s.H+4)-2)
	case 3, 4:
		return ctlCall(7 + r.Intn(8))
	}
	return runeCall([]int{'a', 'b', 32, 228, 20013, 65535, 160, 127, 10}[r.Intn(9)])
}

// TestRandomScreens plays calls, each on the result of the one before, and compares them with the models.
func TestRandomScreens(t *testing.T) {
	r := rand.New(rand.NewSource(9))
	for range 500 {
		s := randomScr(r)
		for range 150 {
			if r.Intn(15) == 0 {
				s = setModes(r, s)
			}
			s = checkCall(t, randomCall(r, s), s)
			wantGrid(t, "the shown grid", impl.Shown(s), *modelGrid(&s))
		}
	}
}

// TestRandomScreensWithAFieldChanged: a random value in one field, which often makes the screen invalid.
func TestRandomScreensWithAFieldChanged(t *testing.T) {
	r := rand.New(rand.NewSource(99))
	count := 0
	for range 20000 {
		s := randomScr(r)
		n := r.Intn(14) - 3
		fields := []*int{&s.W, &s.H, &s.X, &s.Y, &s.SaveX, &s.SaveY, &s.Top, &s.Bot, &s.Limit, &s.A.Fg, &s.SaveA.Bg, &s.Main.W, &s.Main.H, &s.Alt.W, &s.Alt.H, &s.Main.Cells[0].R, &s.Alt.Cells[0].A.Fg}
		*fields[r.Intn(len(fields))] = n
		s.Wrap = r.Intn(3) == 0
		if len(s.Tabs) > 0 && r.Intn(4) == 0 {
			s.Tabs[r.Intn(len(s.Tabs))] += r.Intn(3) - 1
		}
		checkScrOk(t, s)
		if modelScrOk(s) {
			count++
			checkCall(t, randomCall(r, s), s)
			continue
		}
		wantNoScr(t, "an invalid screen", impl.ScrRune(s, 'x'))
		wantNoGrid(t, "an invalid screen", impl.Shown(s))
	}
	if count < 1000 || count > 19000 {
		t.Errorf("%d of the screens are valid", count)
	}
}

// spareScr returns a copy of the screen with spare capacity behind every slice, filled with something else.
func spareScr(s impl.Scr) impl.Scr {
	s = deepScr(s)
	s.Main, _ = spareGrid(s.Main)
	s.Alt, _ = spareGrid(s.Alt)
	for i := range s.Back {
		row, _ := spareGrid(impl.Grid{Cells: s.Back[i].Cells})
		s.Back[i].Cells = row.Cells
	}
	tabs := append(s.Tabs, slices.Repeat([]int{77}, 20)...)
	s.Tabs = tabs[:len(s.Tabs)]
	rows := append(s.Back, slices.Repeat([]impl.Row{{Cells: slices.Repeat([]impl.Cell{{R: 78}}, 5)}}, 20)...)
	s.Back = rows[:len(s.Back)]
	return s
}

// wholeScr returns a copy of the screen with what is in the spare capacity of its slices.
func wholeScr(s impl.Scr) impl.Scr {
	s.Main.Cells, s.Alt.Cells = s.Main.Cells[:cap(s.Main.Cells)], s.Alt.Cells[:cap(s.Alt.Cells)]
	s.Tabs, s.Back = s.Tabs[:cap(s.Tabs)], slices.Clone(s.Back[:cap(s.Back)])
	for i, row := range s.Back {
		s.Back[i].Cells = row.Cells[:cap(row.Cells)]
	}
	return deepScr(s)
}

// memoryOf returns a function for every slice of the screen that overwrites it with its spare capacity. The rows of Back come before Back.
func memoryOf(s *impl.Scr) []func() {
	l := []func(){func() { overwriteCells(s.Main.Cells) }, func() { overwriteCells(s.Alt.Cells) }, func() { overwriteInts(s.Tabs) }}
	for i := range s.Back {
		l = append(l, func() { overwriteCells(s.Back[i].Cells) })
	}
	return append(l, func() {
		rows := s.Back[:cap(s.Back)]
		for i := range rows {
			rows[i] = impl.Row{Cells: []impl.Cell{{R: -9}}}
		}
	})
}

func overwriteScr(s impl.Scr) {
	for _, f := range memoryOf(&s) {
		f()
	}
}

// scrResults calls every function that is given a screen. A grid is returned as the Main of a screen.
func scrResults(s impl.Scr) []impl.Scr {
	var l []impl.Scr
	for _, c := range append(movingCalls(), runeCall(-1), ctlCall(0), goCall(math.MaxInt, math.MinInt)) {
		l = append(l, c.call(s))
	}
	impl.ScrOk(s)
	return append(l, impl.Scr{Main: impl.Shown(s)})
}

// sharingScrs are screens in which all functions have something to do, and invalid ones.
func sharingScrs() []impl.Scr {
	var l []impl.Scr
	for _, b := range [][2]int{{0, 0}, {1, 1}, {4, 3}, {4, 4}, {100, 99}, {100, 100}} {
		for _, onAlt := range []bool{false, true} {
			s := sampleScr(5, 4, b[0], b[1])
			s.OnAlt = onAlt
			top, end := deepScr(s), deepScr(s)
			end.X, end.Y, end.Wrap = 4, 3, true
			l = append(l, top, end)
		}
	}
	for i, s := range invalidScrs() {
		if i%40 == 0 {
			l = append(l, s)
		}
	}
	return l
}

func TestScreenFunctionsLeaveTheirArgumentsAlone(t *testing.T) { checkLeftAlone(t, scrResults) }

// checkLeftAlone calls results, which returns what some functions return for a screen, and looks at the screen and at its spare capacity.
func checkLeftAlone(t *testing.T, results func(s impl.Scr) []impl.Scr) {
	t.Helper()
	for i, s := range sharingScrs() {
		s = spareScr(s)
		before := wholeScr(s)
		unchanged := func(when string) {
			t.Helper()
			if !equalScrs(wholeScr(s), before) {
				t.Errorf("%s: the screen %d, or the spare capacity behind it, is changed", when, i)
			}
		}
		returned := results(s)
		unchanged("after the calls")
		again := results(s)
		for _, r := range returned {
			overwriteScr(r)
		}
		unchanged("after the results were overwritten")
		third := results(s)
		overwriteScr(s)
		for k := range third {
			wantScr(t, fmt.Sprintf("the result %d for the screen %d after others were overwritten", k, i), third[k], again[k])
		}
	}
}

// TestSlicesOfOneScreenShareNothing overwrites each slice of a result and looks at what the others have then.
func TestSlicesOfOneScreenShareNothing(t *testing.T) {
	checkNothingShared(t, scrResults)
	checkNewScreen(t)
}

func checkNothingShared(t *testing.T, results func(s impl.Scr) []impl.Scr) {
	t.Helper()
	for i, s := range sharingScrs() {
		if len(s.Back) > 10 {
			continue
		}
		s = spareScr(s)
		for k, want := range results(s) {
			for m := range memoryOf(&want) {
				got := results(s)[k]
				memoryOf(&got)[m]()
				expected := deepScr(want)
				memoryOf(&expected)[m]()
				wantScr(t, fmt.Sprintf("the result %d for the screen %d with the slice %d overwritten", k, i, m), got, expected)
			}
		}
	}
}

func checkNewScreen(t *testing.T) {
	t.Helper()
	want := newScr(t, 20, 3, 5)
	for m := range memoryOf(&want) {
		got, expected := newScr(t, 20, 3, 5), deepScr(want)
		memoryOf(&got)[m]()
		memoryOf(&expected)[m]()
		wantScr(t, fmt.Sprintf("a new screen with the slice %d overwritten", m), got, expected)
		wantScr(t, "a later screen", newScr(t, 20, 3, 5), want)
	}
}

// TestScreensOfOneArray: the grids and rows of an argument may lie in the same memory, even be the same.
func TestScreensOfOneArray(t *testing.T) {
	all := numberedGrid(4, 6).Cells
	before := slices.Clone(all)
	s := impl.Scr{W: 4, H: 3, Bot: 2, Limit: 3, Tabs: []int{1}}
	s.Main, s.Alt = impl.Grid{W: 4, H: 3, Cells: all[:12]}, impl.Grid{W: 4, H: 3, Cells: all[4:16]}
	s.Back = []impl.Row{{Cells: all[:4]}, {Cells: all[2:9]}, {Cells: all[:4]}}
	for _, onAlt := range []bool{false, true} {
		s.OnAlt = onAlt
		for _, at := range [][2]int{{0, 0}, {3, 2}} {
			s.X, s.Y = at[0], at[1]
			for _, c := range movingCalls() {
				got := checkCall(t, c, s)
				want := deepScr(got)
				overwriteCells(got.Main.Cells)
				got.Main = want.Main
				wantScr(t, c.what+" with Main overwritten", got, want)
			}
		}
	}
	if !slices.Equal(all, before) {
		t.Error("the array is changed")
	}
}
