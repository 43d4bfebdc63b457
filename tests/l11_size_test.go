package tests

import (
	"encoding/binary"
	"fmt"
	"math"
	"math/rand"
	"slices"
	"strings"
	"testing"

	"loop.example/g00661/impl"
)

// modelSized looks for every cell of the new grids in the old ones, by its column and row.
func modelSized(s impl.Scr, w int, h int) (impl.Scr, bool) {
	if !modelScrOk(s) || !modelSize(w, h) {
		return impl.Scr{}, false
	}
	after := deepScr(s)
	d := 0
	if s.Y-h+1 > 0 {
		d = s.Y - h + 1
	}
	for y := range d {
		if s.OnAlt {
			continue
		}
		after.Back = append(after.Back, impl.Row{Cells: slices.Clone(s.Main.Cells[y*s.W : y*s.W+s.W])})
		if len(after.Back) > s.Limit {
			after.Back = after.Back[1:]
		}
	}
	cut := func(g impl.Grid) impl.Grid {
		return gridBy(w, h, func(x, y int) impl.Cell {
			if x < g.W && y+d < g.H {
				return g.Cells[(y+d)*g.W+x]
			}
			return blankCell()
		})
	}
	after.W, after.H, after.Main, after.Alt = w, h, cut(s.Main), cut(s.Alt)
	after.X, after.Y, after.Wrap = nearest(s.X, w), s.Y-d, false
	after.Top, after.Bot, after.Tabs = 0, h-1, modelTabs(w)
	after.SaveX, after.SaveY = nearest(s.SaveX, w), nearest(s.SaveY, h)
	return after, true
}

// checkSized compares one call with its model, and asks that the result is valid. It looks no further once a test has failed.
func checkSized(t *testing.T, s impl.Scr, w int, h int) impl.Scr {
	t.Helper()
	got, ok := impl.ScrSize(s, w, h)
	want, wantOk := modelSized(s, w, h)
	if !equalScrs(got, want) || ok != wantOk || impl.ScrOk(got) != wantOk || modelScrOk(got) != wantOk {
		wantScr(t, fmt.Sprintf("ScrSize to %d, %d of %s", w, h, scrText(s)), got, want)
		t.Fatalf("ScrSize to %d, %d returns %v, and the result is valid: %v; want %v", w, h, ok, impl.ScrOk(got), wantOk)
	}
	return got
}

func wantNotSized(t *testing.T, what string, s impl.Scr, w int, h int) {
	t.Helper()
	got, ok := impl.ScrSize(s, w, h)
	if ok {
		t.Errorf("%s: ScrSize to %d, %d returns true", what, w, h)
	}
	wantNoScr(t, fmt.Sprintf("%s: ScrSize to %d, %d", what, w, h), got)
}

// sized expects that there is a screen of this size.
func sized(t *testing.T, s impl.Scr, w int, h int) impl.Scr {
	t.Helper()
	got, ok := impl.ScrSize(s, w, h)
	if !ok {
		t.Fatalf("ScrSize to %d, %d returns false", w, h)
	}
	return got
}

// TestSizesOfAllCursors compares small sizes with the model for each cursor, mode and region of small screens.
func TestSizesOfAllCursors(t *testing.T) {
	for _, size := range smallSizes() {
		for k, b := range backs() {
			count := 0
			cursorStates(sampleScr(size[0], size[1], b[0], b[1]), func(s impl.Scr) {
				count++
				for n := range 36 {
					if (count+n+k)%3 == 0 {
						checkSized(t, s, 1+n%6, 1+n/6)
					}
				}
			})
		}
	}
}

// sidesAround are a side, one column or row more and fewer, the least and the greatest, and what no side may be.
func sidesAround(n int) []int {
	return []int{n - 2, n - 1, n, n + 1, n + 2, 1, 2, 7, 8, 9, 16, 17, 119, 120, 0, -1, 121, math.MinInt, math.MaxInt}
}

func TestSizesAroundTheOldOne(t *testing.T) {
	for _, size := range append(smallSizes(), [2]int{20, 9}, [2]int{8, 17}) {
		for _, onAlt := range []bool{false, true} {
			s := sampleScr(size[0], size[1], 5, 4)
			s.OnAlt = onAlt
			for _, at := range [][2]int{{0, 0}, {s.W - 1, 0}, {0, s.H - 1}, {s.W - 1, s.H - 1}, {s.W / 2, s.H / 2}} {
				s.X, s.Y = at[0], at[1]
				s.Wrap = s.X == s.W-1
				for _, w := range sidesAround(s.W) {
					for _, h := range sidesAround(s.H) {
						checkSized(t, s, w, h)
					}
				}
			}
		}
	}
}

// TestSizesOfLargeScreens has d of up to 119, and as many cells as a grid may have.
func TestSizesOfLargeScreens(t *testing.T) {
	large := [][2]int{{120, 33}, {33, 120}, {120, 1}, {1, 120}, {100, 40}, {50, 80}, {1, 1}}
	for i, size := range large {
		for _, b := range [][2]int{{100, 100}, {100, 50}, {30, 30}, {0, 0}} {
			s := sampleScr(size[0], size[1], b[0], b[1])
			s.OnAlt = (i+b[1])%4 == 3
			for _, y := range []int{0, s.H / 2, s.H - 1} {
				s.X, s.Y = s.W-1, y
				for _, to := range append(large, [2]int{40, 100}, [2]int{119, 33}, [2]int{120, 32}, [2]int{101, 40}, [2]int{100, 41}, [2]int{121, 33}, [2]int{33, 121}) {
					checkSized(t, s, to[0], to[1])
				}
			}
		}
	}
}

func TestSizesThatNoGridHas(t *testing.T) {
	s := sampleScr(5, 4, 3, 2)
	for _, size := range append(badSizes(), [2]int{120, 34}, [2]int{100, 41}, [2]int{80, 51}, [2]int{34, 120}, [2]int{5, 0}, [2]int{0, 4}, [2]int{5, -1}, [2]int{-1, 4}, [2]int{121, 4}, [2]int{5, 121}) {
		for _, y := range []int{0, 3} {
			s.Y = y
			wantNotSized(t, "a valid screen", s, size[0], size[1])
		}
	}
	for _, size := range [][2]int{{120, 33}, {100, 40}, {80, 50}, {50, 80}, {33, 120}, {120, 1}, {1, 120}, {1, 1}} {
		checkSized(t, s, size[0], size[1])
	}
}

func TestSizesOfInvalidScreens(t *testing.T) {
	for _, c := range badChanges() {
		s := changedScr(baseScr(), c.change)
		for _, onAlt := range []bool{false, true} {
			s.OnAlt = onAlt
			for _, size := range [][2]int{{5, 4}, {6, 5}, {4, 3}, {1, 1}, {120, 33}, {0, 0}, {-1, 4}, {math.MaxInt, math.MinInt}, {s.W, s.H}} {
				wantNotSized(t, c.what, s, size[0], size[1])
			}
		}
	}
}

func TestSizesKnown(t *testing.T) {
	s := alphabetScr(t)
	known := []struct {
		x, y, w, h, toX, toY int
		text                 string
		back                 []string
	}{
		{2, 1, 5, 4, 2, 1, alphabet, nil},
		{2, 1, 6, 4, 2, 1, alphabet, nil},
		{2, 1, 4, 4, 2, 1, "abcd|fghi|klmn|pqrs|", nil},
		{2, 1, 5, 5, 2, 1, alphabet + "|", nil},
		{2, 1, 5, 3, 2, 1, "abcde|fghij|klmno|", nil},
		{2, 1, 5, 2, 2, 1, "abcde|fghij|", nil},
		{2, 1, 5, 1, 2, 0, "fghij|", []string{"abcde"}},
		{2, 1, 1, 1, 0, 0, "f|", []string{"abcde"}},
		{0, 0, 1, 1, 0, 0, "a|", nil},
		{4, 0, 1, 1, 0, 0, "a|", nil},
		{0, 3, 1, 1, 0, 0, "p|", []string{"abcde", "fghij", "klmno"}},
		{4, 3, 1, 1, 0, 0, "p|", []string{"abcde", "fghij", "klmno"}},
		{4, 3, 5, 4, 4, 3, alphabet, nil},
		{4, 3, 5, 3, 4, 2, "fghij|klmno|pqrst|", []string{"abcde"}},
		{4, 3, 4, 2, 3, 1, "klmn|pqrs|", []string{"abcde", "fghij"}},
		{4, 3, 9, 2, 4, 1, "klmno|pqrst|", []string{"abcde", "fghij"}},
		{0, 3, 2, 6, 0, 3, "ab|fg|kl|pq|||", nil},
		{4, 2, 3, 3, 2, 2, "abc|fgh|klm|", nil},
		{4, 2, 3, 2, 2, 1, "fgh|klm|", []string{"abcde"}},
		{3, 0, 4, 3, 3, 0, "abcd|fghi|klmn|", nil},
	}
	for _, k := range known {
		from := impl.ScrGo(s, k.x, k.y)
		what := fmt.Sprintf("from %d, %d to the size %d, %d", k.x, k.y, k.w, k.h)
		wantKnown(t, what, sized(t, from, k.w, k.h), k.toX, k.toY, false, k.text, k.back...)
		// On Alt, the rows are lost on both grids.
		from.Alt, from.OnAlt = s.Main, true
		got := sized(t, from, k.w, k.h)
		wantKnown(t, what+" on Alt", got, k.toX, k.toY, false, k.text)
		got.OnAlt = false
		wantKnown(t, what+" on Alt, and Main then", got, k.toX, k.toY, false, k.text)
	}
}

// TestSizedScrollback has d of less and more than Limit, and rows that are wider and narrower than the new screen.
func TestSizedScrollback(t *testing.T) {
	for _, limit := range []int{0, 1, 2, 3, 4, 99, 100} {
		for _, n := range []int{0, 1, 2, 3, 98, 99, 100} {
			if n > limit {
				continue
			}
			for _, onAlt := range []bool{false, true} {
				s := sampleScr(5, 6, limit, n)
				s.OnAlt = onAlt
				for _, s.Y = range []int{0, 1, 4, 5} {
					for h := 1; h <= 7; h++ {
						for _, w := range []int{1, 4, 5, 6, 120} {
							checkSized(t, s, w, h)
						}
					}
				}
			}
		}
	}
	s := impl.ScrGo(alphabetScr(t), 2, 3)
	s.Back = []impl.Row{{Cells: textGrid("1").Cells}, {Cells: textGrid("a wide row").Cells}}
	for limit, want := range map[int][]string{
		2: {"fghij", "klmno"}, 3: {"abcde", "fghij", "klmno"}, 4: {"a wide row", "abcde", "fghij", "klmno"}, 5: {"1", "a wide row", "abcde", "fghij", "klmno"}, 6: {"1", "a wide row", "abcde", "fghij", "klmno"},
	} {
		s.Limit = limit
		got := sized(t, s, 3, 1)
		wantKnown(t, fmt.Sprint("the limit ", limit), got, 2, 0, false, "pqr|", want...)
		if n := len(got.Back[len(got.Back)-1].Cells); n != 5 {
			t.Errorf("a row of 5 cells is kept with %d", n)
		}
	}
	s.Limit, s.Back = 1, nil
	wantKnown(t, "the limit 1", sized(t, s, 3, 1), 2, 0, false, "pqr|", "klmno")
	s.Limit = 0
	wantKnown(t, "the limit 0", sized(t, s, 3, 1), 2, 0, false, "pqr|")
}

// TestSizedFields changes one field after the other, and expects what becomes of it.
func TestSizedFields(t *testing.T) {
	for _, c := range goodChanges() {
		for _, y := range []int{-1, 0, 3} {
			s := changedScr(baseScr(), c.change)
			if y >= 0 {
				s.Y = y
			}
			for n := range 49 {
				checkSized(t, s, 1+n%7, 1+n/7)
			}
			checkSized(t, s, 120, 33)
		}
	}
	s := baseScr()
	s.X, s.Y, s.Wrap, s.NoWrap, s.Top, s.Bot, s.Tabs, s.SaveX, s.SaveY = 4, 1, true, true, 1, 2, []int{0, 3}, 4, 3
	same := changedScr(s, func(s *impl.Scr) { s.Wrap, s.Top, s.Bot, s.Tabs = false, 0, 3, nil })
	wantScr(t, "the same size", sized(t, s, 5, 4), same)
	wantScr(t, "the same size twice", sized(t, sized(t, s, 5, 4), 5, 4), same)
	wider := sized(t, s, 17, 4)
	if !slices.Equal(wider.Tabs, []int{8, 16}) || wider.SaveX != 4 || wider.SaveY != 3 || wider.X != 4 || wider.Wrap {
		t.Errorf("a wider screen is %s", scrText(wider))
	}
	smaller := sized(t, s, 3, 2)
	if smaller.SaveX != 2 || smaller.SaveY != 1 || smaller.X != 2 || smaller.Y != 1 || smaller.Bot != 1 {
		t.Errorf("a smaller screen is %s", scrText(smaller))
	}
	if smaller.A != s.A || smaller.SaveA != s.SaveA || !smaller.NoWrap || !smaller.Hide || smaller.OnAlt || smaller.Limit != 3 {
		t.Errorf("a smaller screen has other attributes, modes or another limit: %s", scrText(smaller))
	}
}

// TestSavedCursorsOfSizes: the saved cursor is limited, but it does not go up with the rows.
func TestSavedCursorsOfSizes(t *testing.T) {
	s := sampleScr(5, 4, 9, 0)
	for n := range 20 * 25 {
		s.SaveX, s.SaveY = n%5, n/5%4
		w, h := 1+n/20%5, 1+n/100
		for _, s.Y = range []int{0, 3} {
			checkSized(t, s, w, h)
		}
	}
	s.SaveX, s.SaveY, s.Y = 1, 1, 3
	if got := sized(t, s, 5, 2); got.SaveX != 1 || got.SaveY != 1 || got.Y != 1 {
		t.Errorf("the saved cursor at 1, 1 is at %d, %d, and the cursor in row %d", got.SaveX, got.SaveY, got.Y)
	}
}

// TestRowsAboveTheRegionAreKept: the rows that go are the first ones of Main, whatever the scrolling region is.
func TestRowsAboveTheRegionAreKept(t *testing.T) {
	for _, region := range [][2]int{{0, 3}, {0, 1}, {1, 2}, {2, 3}} {
		s := impl.ScrGo(alphabetScr(t), 0, 3)
		s.Top, s.Bot = region[0], region[1]
		wantKnown(t, fmt.Sprint("the region ", region), sized(t, s, 5, 2), 0, 1, false, "klmno|pqrst|", "abcde", "fghij")
	}
}

// largerSize returns a random size that a grid may have, at least as large as another.
func largerSize(r *rand.Rand, w int, h int) (int, int) {
	for {
		toW, toH := w+r.Intn(121-w), h+r.Intn(121-h)
		if r.Intn(2) == 0 {
			toW, toH = w+r.Intn(3), h+r.Intn(3)
		}
		if modelSize(toW, toH) {
			return toW, toH
		}
	}
}

// TestEnlargedAndReducedAgain is the part of P7 about sizes: both grids, the cursor and the scrollback are the same again.
func TestEnlargedAndReducedAgain(t *testing.T) {
	r := rand.New(rand.NewSource(14))
	for range 500 {
		s := playText(randomScr(r), randomOutput(r))
		w, h := largerSize(r, s.W, s.H)
		moreW, moreH := largerSize(r, w, h)
		for _, steps := range [][][2]int{{{w, h}}, {{w, h}, {moreW, moreH}}, {{w, h}, {moreW, moreH}, {w, h}}, {{w, s.H}, {w, h}, {s.W, h}}, {{s.W, h}}, {{w, s.H}}, nil} {
			got := s
			for _, step := range append(steps, [2]int{s.W, s.H}) {
				got = checkSized(t, got, step[0], step[1])
			}
			what := fmt.Sprintf("a screen of %d, %d after the sizes %d", s.W, s.H, steps)
			wantGrid(t, what, impl.Shown(got), impl.Shown(s))
			if impl.GridText(impl.Shown(got)) != impl.GridText(impl.Shown(s)) {
				t.Fatalf("%s displays another text", what)
			}
			want := changedScr(s, func(s *impl.Scr) { s.Wrap, s.Top, s.Bot, s.Tabs = false, 0, s.H-1, modelTabs(s.W) })
			wantScr(t, what, got, want)
		}
	}
}

// TestReducedRowsAreInTheScrollback: no row at or above the cursor is lost while there is room in the scrollback.
func TestReducedRowsAreInTheScrollback(t *testing.T) {
	for h := 1; h <= 10; h++ {
		s := newScr(t, 8, 10, 100)
		var all []string
		for i := range 25 {
			all = append(all, fmt.Sprint("row ", i))
		}
		s = sized(t, playText(s, strings.Join(all, "\r\n")), 8, h)
		wantKnown(t, fmt.Sprint("reduced to ", h), s, 6, h-1, false, strings.Join(all[25-h:], "|")+"|", all[:25-h]...)
		s = sized(t, s, 8, 12)
		wantKnown(t, fmt.Sprint("enlarged from ", h), s, 6, h-1, false, strings.Join(all[25-h:], "|")+"|"+strings.Repeat("|", 12-h), all[:25-h]...)
	}
}

// TestScreensStayValidUnderRandomSizes goes on with output after each change of the size.
func TestScreensStayValidUnderRandomSizes(t *testing.T) {
	r := rand.New(rand.NewSource(15))
	for range 400 {
		s := randomScr(r)
		for range 12 {
			for _, a := range modelActs(randomOutput(r)) {
				s = checkCall(t, actCall(a), s)
			}
			w, h := []int{1 + r.Intn(12), s.W, s.W + 1, s.W - 1}[r.Intn(4)], []int{1 + r.Intn(8), s.H, s.H + 1, s.H - 1}[r.Intn(4)]
			if got := checkSized(t, s, w, h); got.W > 0 {
				s = got
			}
		}
	}
}

// sizeResults are also those of sizes that no grid has.
func sizeResults(s impl.Scr) []impl.Scr {
	var l []impl.Scr
	for _, size := range [][2]int{{5, 4}, {6, 5}, {5, 1}, {1, 4}, {1, 1}, {4, 3}, {17, 2}, {3, 9}, {0, 4}, {121, 1}, {math.MinInt, math.MaxInt}} {
		got, _ := impl.ScrSize(s, size[0], size[1])
		l = append(l, got)
	}
	return l
}

func TestSizesLeaveTheirScreensAlone(t *testing.T) { checkLeftAlone(t, sizeResults) }

func TestSlicesOfSizesShareNothing(t *testing.T) { checkNothingShared(t, sizeResults) }

// TestSizesOfOneArray: the grids and rows of an argument may lie in the same memory, even be the same.
func TestSizesOfOneArray(t *testing.T) {
	all := numberedGrid(4, 6).Cells
	before := slices.Clone(all)
	s := impl.Scr{W: 4, H: 3, Y: 2, Bot: 2, Limit: 5, Tabs: []int{1}, Main: impl.Grid{W: 4, H: 3, Cells: all[:12]}, Alt: impl.Grid{W: 4, H: 3, Cells: all[4:16]}}
	s.Back = []impl.Row{{Cells: all[:4]}, {Cells: all[2:9]}, {Cells: all[:4]}}
	for n := range 25 {
		got := checkSized(t, s, 1+n%5, 1+n/5)
		want := deepScr(got)
		overwriteCells(got.Main.Cells)
		got.Main = want.Main
		wantScr(t, "with Main overwritten", got, want)
	}
	if !slices.Equal(all, before) {
		t.Error("the array is changed")
	}
}

// runText is the encoding of one run, also of one that no cells have.
func runText(size int, r int, attr int) string { return varint(size) + varint(r) + varint(attr) }

// modelAttrNum is for valid attributes, and modelNumAttr for their numbers.
func modelAttrNum(a impl.Attr) int {
	n := 72*a.Bg + 8*a.Fg
	for i, set := range []bool{a.Bold, a.Under, a.Turn} {
		if set {
			n += []int{1, 2, 4}[i]
		}
	}
	return n
}

func modelNumAttr(n int) impl.Attr {
	return impl.Attr{Fg: n % 72 / 8, Bg: n / 72, Bold: n%2 == 1, Under: n%4 > 1, Turn: n%8 > 3}
}

// modelCells joins the encodings of the runs, each of which ends where the next cell is another one.
func modelCells(l []impl.Cell) string {
	var b strings.Builder
	from := 0
	for i, c := range l {
		if i+1 == len(l) || l[i+1] != c {
			b.WriteString(runText(i+1-from, c.R, modelAttrNum(c.A)))
			from = i + 1
		}
	}
	return b.String()
}

// modelCellsRead reads runs of any kind, and accepts them if the cells have just this encoding.
func modelCellsRead(b string, at int, n int) ([]impl.Cell, int, bool) {
	if at < 0 || at > len(b) || n < 0 || n > 4000 {
		return nil, 0, false
	}
	var l []impl.Cell
	rest := []byte(b[at:])
	for len(l) < n {
		var numbers [3]uint64
		for i := range numbers {
			m, size := binary.Uvarint(rest)
			if size <= 0 {
				return nil, 0, false
			}
			numbers[i], rest = m, rest[size:]
		}
		if numbers[0] > 4000 || numbers[1] > 65535 || !modelShows(int(numbers[1])) || numbers[2] > 647 {
			return nil, 0, false
		}
		l = append(l, slices.Repeat([]impl.Cell{{R: int(numbers[1]), A: modelNumAttr(int(numbers[2]))}}, int(numbers[0]))...)
	}
	if len(l) != n || !strings.HasPrefix(b[at:], modelCells(l)) {
		return nil, 0, false
	}
	return l, at + len(modelCells(l)), true
}

// wantCells expects the cells whose encoding begins at the offset, and the offset behind it.
func wantCells(t *testing.T, what string, b string, at int, want []impl.Cell, next int) {
	t.Helper()
	l, end, ok := impl.CellsRead([]byte(b), at, len(want))
	if !ok || end != next || !slices.Equal(l, want) {
		t.Errorf("%s: CellsRead of %d cells at %d in %d bytes returns %d cells, %d, %v; want those of the encoding, %d, true", what, len(want), at, len(b), len(l), end, ok, next)
	}
}

func wantNoCells(t *testing.T, what string, b string, at int, n int) {
	t.Helper()
	if l, end, ok := impl.CellsRead([]byte(b), at, n); len(l) != 0 || end != 0 || ok {
		t.Errorf("%s: CellsRead(%d bytes, %d, %d) returns %d cells, %d, %v; want zero values", what, len(b), at, n, len(l), end, ok)
	}
}

// checkCellsRead compares one call with its model.
func checkCellsRead(t *testing.T, b string, at int, n int) {
	t.Helper()
	want, next, ok := modelCellsRead(b, at, n)
	got, gotNext, gotOk := impl.CellsRead([]byte(b), at, n)
	if !slices.Equal(got, want) || gotNext != next || gotOk != ok {
		t.Errorf("CellsRead(% x, %d, %d) = %v, %d, %v; want %v, %d, %v", b, at, n, got, gotNext, gotOk, want, next, ok)
	}
}

func cellsOf(size int, c impl.Cell) []impl.Cell { return slices.Repeat([]impl.Cell{c}, size) }

// cellLists are none, one, runs of the lengths at which their number grows, neighbors that differ little, and the extreme cells.
func cellLists() [][]impl.Cell {
	a, bold := impl.Cell{R: 'a'}, impl.Cell{R: 'a', A: impl.Attr{Bold: true}}
	greatest := impl.Cell{R: 65535, A: impl.Attr{Fg: 8, Bg: 8, Bold: true, Under: true, Turn: true}}
	l := [][]impl.Cell{nil, {}, {a}, {greatest}, {blankCell()}, {a, a}, {a, bold}, {a, a, bold}, {a, bold, bold}, {a, bold, a}, {a, a, bold, a, a}, numberedGrid(30, 4).Cells, numberedGrid(100, 40).Cells}
	for _, n := range []int{2, 3, 126, 127, 128, 129, 255, 256, 1000, 3999, 4000} {
		l = append(l, cellsOf(n, a), cellsOf(n, greatest))
		if n < 4000 {
			l = append(l, append(cellsOf(n, a), bold), append([]impl.Cell{greatest}, cellsOf(n, a)...))
		}
		if 2*n <= 4000 {
			l = append(l, append(cellsOf(n, a), cellsOf(n, bold)...))
		}
	}
	var extreme []impl.Cell
	for _, r := range []int{32, 126, 160, 127 + 128, 2047, 2048, 16383, 16384, 55295, 57344, 65533, 65535} {
		for _, attr := range someAttrs() {
			extreme = append(extreme, impl.Cell{R: r, A: attr}, impl.Cell{R: r, A: attr})
		}
	}
	l = append(l, extreme)
	for _, c := range nearCells(bold) {
		l = append(l, []impl.Cell{bold, c}, []impl.Cell{bold, bold, c, c, bold}, []impl.Cell{a, c, bold})
	}
	return l
}

// nearCells differ from a cell in one field each.
func nearCells(c impl.Cell) []impl.Cell {
	l := slices.Repeat([]impl.Cell{c}, 6)
	l[0].R++
	l[1].A.Fg = (c.A.Fg + 1) % 9
	l[2].A.Bg = (c.A.Bg + 1) % 9
	l[3].A.Bold = !c.A.Bold
	l[4].A.Under = !c.A.Under
	l[5].A.Turn = !c.A.Turn
	return l
}

func TestCellsBytes(t *testing.T) {
	for i, l := range cellLists() {
		b, ok := impl.CellsBytes(l)
		if want := modelCells(l); !ok || string(b) != want {
			t.Errorf("CellsBytes of the list %d of %d cells returns %d bytes and %v; want %d bytes and true", i, len(l), len(b), ok, len(want))
		}
	}
}

func TestCellsBytesKnown(t *testing.T) {
	x := impl.Cell{R: 'x'}
	greatest := impl.Cell{R: 65535, A: impl.Attr{Fg: 8, Bg: 8, Bold: true, Under: true, Turn: true}}
	for want, l := range map[string][]impl.Cell{
		"":                             nil,
		"\x01x\x00":                    {x},
		"\x02x\x00":                    {x, x},
		"\x7fx\x00":                    cellsOf(127, x),
		"\x80\x01x\x00":                cellsOf(128, x),
		"\xa0\x1fx\x00":                cellsOf(4000, x),
		"\x01\xff\xff\x03\x87\x05":     {greatest},
		"\x01 \x00":                    {blankCell()},
		"\x01x\x01":                    {{R: 'x', A: impl.Attr{Bold: true}}},
		"\x01x\x02":                    {{R: 'x', A: impl.Attr{Under: true}}},
		"\x01x\x04":                    {{R: 'x', A: impl.Attr{Turn: true}}},
		"\x01x\x08":                    {{R: 'x', A: impl.Attr{Fg: 1}}},
		"\x01x\x48":                    {{R: 'x', A: impl.Attr{Bg: 1}}},
		"\x02x\x00\x01y\x00\x03x\x00":  {x, x, {R: 'y'}, x, x, x},
		"\x01x\x00\x01x\x48\x01x\x00":  {x, {R: 'x', A: impl.Attr{Bg: 1}}, x},
		"\x01\xa0\x01\x00\x01\x7e\x00": {{R: 160}, {R: 126}},
	} {
		if b, ok := impl.CellsBytes(l); !ok || string(b) != want {
			t.Errorf("CellsBytes of %d cells is % x, %v; want % x", len(l), b, ok, want)
		}
		wantCells(t, "known bytes", want, 0, l, len(want))
	}
}

// TestCellsBytesOfAllAttributes: each attribute is next to every other one that has another value in one field.
func TestCellsBytesOfAllAttributes(t *testing.T) {
	for _, a := range validAttrs() {
		c := impl.Cell{R: 'x', A: a}
		for _, near := range nearCells(c) {
			l := []impl.Cell{c, c, near, c}
			b, ok := impl.CellsBytes(l)
			want := modelCells(l)
			if !ok || string(b) != want {
				t.Errorf("CellsBytes of %+v and %+v is % x, %v; want % x", c, near, b, ok, want)
			}
			wantCells(t, "attributes", want, 0, l, len(want))
		}
	}
}

// TestCellsOfAllRunes also reads each of them, and rejects the other ones.
func TestCellsOfAllRunes(t *testing.T) {
	for r := range 66000 {
		text := runText(1, r, 0)
		b, ok := impl.CellsBytes([]impl.Cell{{R: r}})
		if ok != modelShows(r) || ok && string(b) != text {
			t.Fatalf("CellsBytes of the rune %d is % x, %v", r, b, ok)
		}
		if !ok {
			wantNoCells(t, fmt.Sprint("the rune ", r), text, 0, 1)
			continue
		}
		wantCells(t, fmt.Sprint("the rune ", r), text, 0, []impl.Cell{{R: r}}, len(text))
	}
}

func TestCellsBytesOfBadCells(t *testing.T) {
	for i, bad := range invalidCells() {
		for _, size := range []int{1, 2, 3, 128, 4000} {
			for _, at := range []int{0, size / 2, size - 1} {
				l := cellsOf(size, blankCell())
				l[at] = bad
				if b, ok := impl.CellsBytes(l); ok || len(b) != 0 {
					t.Errorf("the bad cell %d at %d of %d: CellsBytes returns %d bytes and %v", i, at, size, len(b), ok)
				}
			}
		}
		if b, ok := impl.CellsBytes(cellsOf(5, bad)); ok || len(b) != 0 {
			t.Errorf("the bad cell %d alone: CellsBytes returns %d bytes and %v", i, len(b), ok)
		}
	}
}

func TestCellsBytesOfTooManyCells(t *testing.T) {
	all := numberedGrid(1, 4000).Cells
	for _, n := range []int{4001, 4002, 5000, 8000, 100000} {
		for _, l := range [][]impl.Cell{cellsOf(n, blankCell()), append(slices.Clone(all), cellsOf(n-4000, blankCell())...), cellsOf(n, impl.Cell{})} {
			if b, ok := impl.CellsBytes(l); ok || len(b) != 0 {
				t.Errorf("CellsBytes of %d cells returns %d bytes and %v", n, len(b), ok)
			}
		}
	}
}

// TestCellsAreRecovered is the part of P5 about cells: from their encoding alone, in the middle of other bytes, and behind them.
func TestCellsAreRecovered(t *testing.T) {
	around := []string{"", "\x00", "\x01", "x", "\x01x\x00", "\x80", "\xff\xff\xff\xff\xff\xff", "\x03a\x00"}
	for i, l := range cellLists() {
		b, _ := impl.CellsBytes(l)
		text := string(b)
		for _, before := range around {
			for _, behind := range around {
				what := fmt.Sprintf("the list %d behind % x and before % x", i, before, behind)
				wantCells(t, what, before+text+behind, len(before), l, len(before)+len(text))
			}
		}
	}
}

// TestCellsReadOfOtherNumbers: n is not what the encoding says.
func TestCellsReadOfOtherNumbers(t *testing.T) {
	for i, l := range cellLists() {
		text := modelCells(l)
		for _, n := range []int{-1, 4001, math.MinInt, math.MaxInt, math.MinInt + 1, 1 << 32, -4000} {
			wantNoCells(t, fmt.Sprint("the list ", i), text, 0, n)
		}
		for _, n := range []int{0, 1, len(l) - 1, len(l), len(l) + 1, 2 * len(l), 3999, 4000} {
			for _, behind := range []string{"", "\x01z\x00", "\x01a\x00", "\x02z\x00", "\x00"} {
				checkCellsRead(t, text+behind, 0, n)
			}
		}
	}
	wantNoCells(t, "one less than a run", "\x03x\x00", 0, 2)
	wantNoCells(t, "one more than a run", "\x03x\x00", 0, 4)
	wantCells(t, "one less, without the last run", "\x02x\x00\x01y\x00", 0, cellsOf(2, impl.Cell{R: 'x'}), 3)
	wantNoCells(t, "within the second run", "\x02x\x00\x02y\x00", 0, 3)
	wantCells(t, "one more, with another run", "\x02x\x00\x01y\x00", 0, []impl.Cell{{R: 'x'}, {R: 'x'}, {R: 'y'}}, 6)
	// The encoding of one cell is there, whatever follows.
	wantCells(t, "one of two equal runs", "\x01x\x00\x01x\x00", 0, []impl.Cell{{R: 'x'}}, 3)
}

func TestCellsReadOfNoCells(t *testing.T) {
	for _, text := range []string{"", "\x00", "\x01x\x00", "\xff\xff\xff\xff\xff\xff", "abc"} {
		for at := range len(text) + 1 {
			wantCells(t, "no cells", text, at, nil, at)
		}
		for _, at := range []int{-1, len(text) + 1, len(text) + 2, math.MinInt, math.MaxInt} {
			wantNoCells(t, "no cells", text, at, 0)
		}
	}
}

func TestCellsReadAtOtherOffsets(t *testing.T) {
	for i, l := range cellLists() {
		text := modelCells(l)
		for _, at := range []int{-1, -2, -len(text), len(text) + 1, math.MinInt, math.MinInt + 1, math.MaxInt, math.MaxInt - 1, 1 << 32} {
			if at == 0 {
				continue
			}
			for _, n := range []int{0, 1, len(l), 4000} {
				wantNoCells(t, fmt.Sprint("the list ", i), text, at, n)
			}
		}
		for _, n := range []int{1, max(1, len(l)), 4000} {
			wantNoCells(t, fmt.Sprint("behind the list ", i), text, len(text), n)
		}
		for at := range min(len(text), 40) {
			for _, n := range []int{0, 1, 2, len(l) - 1, len(l)} {
				checkCellsRead(t, text, at, n)
			}
		}
	}
}

func TestCellsReadOfTornBytes(t *testing.T) {
	for i, l := range cellLists() {
		text := modelCells(l)
		if len(l) == 0 {
			continue
		}
		wantNoCells(t, fmt.Sprint("one byte fewer of the list ", i), text[:len(text)-1], 0, len(l))
		for _, cut := range []int{0, 1, 2, len(text) / 2} {
			if cut < len(text) {
				wantNoCells(t, fmt.Sprintf("%d bytes of the list %d", cut, i), text[:cut], 0, len(l))
			}
		}
		for cut := range min(len(text), 50) {
			wantNoCells(t, fmt.Sprintf("%d bytes of the list %d behind another", cut, i), "x"+text[:cut], 1, len(l))
		}
	}
}

// TestCellsReadOfChangedBytes: every byte of short encodings becomes every other byte. The changed lengths may still be up to MaxCells.
func TestCellsReadOfChangedBytes(t *testing.T) {
	for _, l := range cellLists() {
		text := modelCells(l)
		if len(text) > 30 || len(l) > 300 {
			continue
		}
		for at := range len(text) {
			for c := range 256 {
				b := []byte(text)
				b[at] = byte(c)
				for _, behind := range []string{"", "\x01y\x00"} {
					checkCellsRead(t, string(b)+behind, 0, len(l))
				}
			}
		}
	}
}

// TestCellsReadOfRunsThatNobodyWrites: the same cells are encoded in another way, or no valid cells at all.
func TestCellsReadOfRunsThatNobodyWrites(t *testing.T) {
	for what, text := range map[string]string{
		"two runs of one":                 "\x01x\x00\x01x\x00",
		"a run of 0 in front":             "\x00x\x00\x02x\x00",
		"a run of 0 of another cell":      "\x00y\x00\x02x\x00",
		"a run of 0 in the middle":        "\x01x\x00\x00y\x00\x01x\x00",
		"a run of 0 alone":                "\x00x\x00",
		"many runs of 0":                  strings.Repeat("\x00x\x00", 100),
		"a length that is not shortest":   "\x82\x00x\x00",
		"a rune that is not shortest":     "\x02\xf8\x00\x00",
		"an attribute not shortest":       "\x02x\x80\x00",
		"a length of five bytes too many": "\x82\x80\x80\x80\x00x\x00",
		"a length over MaxNum":            "\x82\x80\x80\x80\x10x\x00",
		"a length of MaxNum":              "\xff\xff\xff\xff\x0fx\x00",
		"a length of 3":                   "\x03x\x00",
		"the least wrong rune":            "\x02\x1f\x00",
		"the rune 0":                      "\x02\x00\x00",
		"the rune 127":                    "\x02\x7f\x00",
		"the rune 159":                    "\x02\x9f\x01\x00",
		"the first surrogate":             "\x02" + varint(55296) + "\x00",
		"the last surrogate":              "\x02" + varint(57343) + "\x00",
		"the rune 65536":                  "\x02" + varint(65536) + "\x00",
		"the rune MaxNum":                 "\x02" + varint(impl.MaxNum) + "\x00",
		"the attribute 648":               "\x02x" + varint(648),
		"the attribute 720":               "\x02x" + varint(720),
		"the attribute MaxNum":            "\x02x" + varint(impl.MaxNum),
		"nothing":                         "",
	} {
		wantNoCells(t, what, text, 0, 2)
		wantNoCells(t, what+" behind a byte", "z"+text, 1, 2)
		wantNoCells(t, what+" behind another run", "\x01z\x00"+text, 0, 3)
		for _, behind := range []string{"", "\x00", "\x01z\x00", "\x02x\x00"} {
			for n := range 6 {
				checkCellsRead(t, text+behind, 0, n)
			}
		}
	}
	for _, bad := range badVars() {
		for _, text := range []string{bad + "x\x00", "\x01" + bad + "\x00", "\x01x" + bad} {
			wantNoCells(t, "a number", text, 0, 1)
			wantNoCells(t, "a number and more", text+"\x01x\x00", 0, 1)
		}
	}
}

// TestCellsReadOfSplitRuns: no run of up to MaxCells may be in two parts.
func TestCellsReadOfSplitRuns(t *testing.T) {
	for _, n := range []int{2, 3, 127, 128, 129, 255, 256, 3999, 4000} {
		wantCells(t, "one run", runText(n, 'x', 5), 0, cellsOf(n, impl.Cell{R: 'x', A: impl.Attr{Bold: true, Turn: true}}), len(runText(n, 'x', 5)))
		for _, first := range []int{1, n / 2, n - 1} {
			wantNoCells(t, fmt.Sprintf("%d with a part of %d", n, first), runText(first, 'x', 5)+runText(n-first, 'x', 5), 0, n)
		}
	}
	wantNoCells(t, "too many", runText(4001, 'x', 0), 0, 4001)
	wantNoCells(t, "more than asked for", runText(4001, 'x', 0), 0, 4000)
	wantNoCells(t, "too many in two runs", runText(4000, 'x', 0)+runText(1, 'y', 0), 0, 4001)
	wantCells(t, "those before too many", runText(4000, 'x', 0)+runText(1, 'y', 0), 0, cellsOf(4000, impl.Cell{R: 'x'}), 4)
}

// TestCellsReadOfAllAttributeNumbers has every number of two bytes.
func TestCellsReadOfAllAttributeNumbers(t *testing.T) {
	attrs := validAttrs()
	for n := range 16384 {
		text := runText(2, 'x', n)
		if n >= len(attrs) {
			wantNoCells(t, fmt.Sprint("the attribute ", n), text, 0, 2)
			continue
		}
		wantCells(t, fmt.Sprint("the attribute ", n), text, 0, cellsOf(2, impl.Cell{R: 'x', A: attrs[n]}), len(text))
	}
}

// TestRandomCells also reads what random changes make of the encoding, at random offsets.
func TestRandomCells(t *testing.T) {
	r := rand.New(rand.NewSource(16))
	for range 3000 {
		var l []impl.Cell
		for range r.Intn(8) {
			l = append(l, cellsOf(1+r.Intn(1+r.Intn(300)), randomCell(r))...)
		}
		b, ok := impl.CellsBytes(l)
		text := modelCells(l)
		if !ok || string(b) != text {
			t.Fatalf("CellsBytes of %d cells returns % x, %v; want % x", len(l), b, ok, text)
		}
		wantCells(t, "random cells", text, 0, l, len(text))
		for range 20 {
			broken := []byte(text)
			for range r.Intn(3) {
				at := r.Intn(len(broken) + 1)
				broken = slices.Concat(broken[:at], []byte{byte([]int{0, 1, 2, 32, 128, r.Intn(256)}[r.Intn(6)])}, broken[min(len(broken), at+r.Intn(3)):])
			}
			checkCellsRead(t, string(broken), r.Intn(len(broken)+1)*r.Intn(2), len(l)*r.Intn(2)+r.Intn(3))
		}
	}
}

func TestCellsBytesLeavesItsCellsAlone(t *testing.T) {
	for i, l := range append(cellLists(), cellsOf(3, impl.Cell{}), cellsOf(4001, blankCell())) {
		g, all := spareGrid(impl.Grid{Cells: l})
		before := slices.Clone(all)
		one, _ := impl.CellsBytes(g.Cells)
		overwrite(one[:cap(one)])
		two, ok := impl.CellsBytes(g.Cells)
		if !slices.Equal(all, before) {
			t.Errorf("the list %d, or the spare capacity behind it, is changed", i)
		}
		overwriteCells(g.Cells)
		if ok && string(two) != modelCells(l) {
			t.Errorf("the encoding of the list %d changes with others or with its cells", i)
		}
	}
}

func TestCellsReadLeavesItsBytesAlone(t *testing.T) {
	for i, l := range cellLists() {
		b, all := withSpare("ab" + modelCells(l) + "c")
		before := string(all)
		one, _, _ := impl.CellsRead(b, 2, len(l))
		overwriteCells(one)
		two, next, ok := impl.CellsRead(b, 2, len(l))
		impl.CellsRead(b, 1, len(l))
		impl.CellsRead(b, 2, len(l)+1)
		if string(all) != before {
			t.Errorf("the bytes of the list %d, or the spare capacity behind them, are changed", i)
		}
		overwrite(all)
		if !ok || next != len(b)-1 || !slices.Equal(two, l) {
			t.Errorf("the cells of the list %d change with others or with their bytes", i)
		}
	}
}

// TestCellsReadStopsAtItsBytes: what lies in the spare capacity is not read.
func TestCellsReadStopsAtItsBytes(t *testing.T) {
	text := "\x02x\x00\x01y\x00"
	for cut := range len(text) {
		b := []byte(text)[:cut]
		if l, next, ok := impl.CellsRead(b, 0, 3); len(l) != 0 || next != 0 || ok {
			t.Errorf("%d bytes give %d cells, %d, %v", cut, len(l), next, ok)
		}
	}
}

// TestCellsOfScreens: grids and rows of the scrollback are recovered after output and other sizes.
func TestCellsOfScreens(t *testing.T) {
	r := rand.New(rand.NewSource(17))
	for range 300 {
		s := playText(randomScr(r), randomOutput(r))
		s = sized(t, s, 1+r.Intn(20), 1+r.Intn(10))
		lists := [][]impl.Cell{s.Main.Cells, s.Alt.Cells}
		for _, row := range s.Back {
			lists = append(lists, row.Cells)
		}
		var all []byte
		for _, l := range lists {
			b, ok := impl.CellsBytes(l)
			if !ok {
				t.Fatalf("CellsBytes returns false for %d cells of a screen", len(l))
			}
			all = append(all, b...)
		}
		at := 0
		for i, l := range lists {
			got, next, ok := impl.CellsRead(all, at, len(l))
			if !ok || !slices.Equal(got, l) {
				t.Fatalf("the cells %d of a screen are not recovered", i)
			}
			at = next
		}
		if at != len(all) {
			t.Errorf("%d of %d bytes are read", at, len(all))
		}
	}
}
