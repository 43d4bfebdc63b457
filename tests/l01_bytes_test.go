package tests

import (
	"bytes"
	"hash/crc32"
	"math"
	"slices"
	"strconv"
	"strings"
	"testing"

	"loop.example/g00661/impl"
)

// edgeNumbers are the numbers at which an encoding grows by a byte, their neighbors, and both ends of the range.
func edgeNumbers() []int {
	l := []int{0, 1, 2, 9, 10, 100, 300, 4000, 4001, 65535, 65536, impl.MaxNum - 1, impl.MaxNum}
	for shift := 7; shift < 32; shift += 7 {
		l = append(l, 1<<shift-1, 1<<shift, 1<<shift+1)
	}
	return l
}

func notNumbers() []int {
	return []int{-1, -2, -128, -impl.MaxNum, impl.MaxNum + 1, 1 << 33, 1 << 35, math.MaxInt, math.MinInt}
}

// badOffsets are offsets at which a slice of n bytes has no byte.
func badOffsets(n int) []int {
	return []int{-1, -5, math.MinInt, n, n + 1, n + 5, math.MaxInt, math.MaxInt - 1, math.MaxInt - 4}
}

func wantNoNumber(t *testing.T, b []byte, at int) {
	t.Helper()
	if n, next, ok := impl.GetVar(b, at); n != 0 || next != 0 || ok {
		t.Errorf("GetVar(% x, %d) = %d, %d, %v; want 0, 0, false", b, at, n, next, ok)
	}
}

func wantNumber(t *testing.T, b []byte, at int, wantN int, wantNext int) {
	t.Helper()
	if n, next, ok := impl.GetVar(b, at); n != wantN || next != wantNext || !ok {
		t.Errorf("GetVar(% x, %d) = %d, %d, %v; want %d, %d, true", b, at, n, next, ok, wantN, wantNext)
	}
}

func wantNoText(t *testing.T, b []byte, at int) {
	t.Helper()
	if s, next, ok := impl.GetText(b, at); s != "" || next != 0 || ok {
		t.Errorf("GetText(%d bytes, %d) = %d bytes, %d, %v; want zero values", len(b), at, len(s), next, ok)
	}
}

// withSpare returns the text as a slice with spare capacity, and the whole memory behind it.
func withSpare(text string) ([]byte, []byte) {
	all := append([]byte(text), bytes.Repeat([]byte{238}, 40)...)
	return all[:len(text)], all
}

func TestPutVarEncodings(t *testing.T) {
	want := []struct {
		n    int
		code string
	}{
		{0, "\x00"},
		{1, "\x01"},
		{127, "\x7f"},
		{128, "\x80\x01"},
		{129, "\x81\x01"},
		{256, "\x80\x02"},
		{300, "\xac\x02"},
		{16383, "\xff\x7f"},
		{16384, "\x80\x80\x01"},
		{2097151, "\xff\xff\x7f"},
		{2097152, "\x80\x80\x80\x01"},
		{268435455, "\xff\xff\xff\x7f"},
		{268435456, "\x80\x80\x80\x80\x01"},
		{impl.MaxNum - 1, "\xfe\xff\xff\xff\x0f"},
		{impl.MaxNum, "\xff\xff\xff\xff\x0f"},
	}
	for _, w := range want {
		for _, before := range []string{"", "\x00", "ab\x80"} {
			b, ok := impl.PutVar([]byte(before), w.n)
			if !ok || string(b) != before+w.code {
				t.Errorf("PutVar(%q, %d) = %q, %v", before, w.n, b, ok)
			}
		}
	}
}

func TestPutVarRejectsWhatIsNoNumber(t *testing.T) {
	for _, n := range notNumbers() {
		if b, ok := impl.PutVar([]byte("abc"), n); b != nil || ok {
			t.Errorf("PutVar of %d = %q, %v; want nil, false", n, b, ok)
		}
	}
}

func TestNumbersAreRecoveredAtAnyOffset(t *testing.T) {
	numbers := edgeNumbers()
	for i := range 3000 {
		numbers = append(numbers, i*1431655) // spread over the whole range
	}
	var b []byte
	var starts []int
	for _, n := range numbers {
		starts = append(starts, len(b))
		b, _ = impl.PutVar(b, n)
	}
	starts = append(starts, len(b))
	for i, n := range numbers {
		wantNumber(t, b, starts[i], n, starts[i+1])
	}
}

func TestNumbersOfOneAndTwoBytes(t *testing.T) {
	for first := range 256 {
		if first < 128 {
			wantNumber(t, []byte{byte(first)}, 0, first, 1)
		} else {
			wantNoNumber(t, []byte{byte(first)}, 0)
		}
		for second := range 256 {
			b := []byte{77, byte(first), byte(second), 200}
			switch {
			case first < 128:
				wantNumber(t, b, 1, first, 2)
			case second == 0:
				wantNoNumber(t, b, 1)
			case second < 128:
				wantNumber(t, b, 1, first-128+128*second, 3)
			default:
				wantNoNumber(t, b, 1)
			}
		}
	}
}

func TestGetVarRejectsIncompleteNumbers(t *testing.T) {
	for _, n := range edgeNumbers() {
		b, _ := impl.PutVar([]byte{1}, n)
		for end := 1; end < len(b); end++ {
			wantNoNumber(t, b[:end], 1)
			// What lies in the spare capacity is not part of the slice.
			wantNoNumber(t, b[1:end], 0)
		}
	}
}

func TestGetVarRejectsLongerEncodings(t *testing.T) {
	for _, s := range []string{
		"\x80\x00", "\xff\x00", "\x85\x00", "\x80\x80\x00", "\xff\xff\x00", "\x80\x80\x80\x00",
		"\x80\x80\x80\x80\x00", "\xff\xff\xff\xff\x00", "\x80\x80\x80\x80\x80\x00", "\x81\x80\x80\x80\x80\x00",
	} {
		wantNoNumber(t, []byte(s), 0)
		wantNoNumber(t, []byte("\x05"+s+"\x05"), 1)
	}
}

func TestGetVarRejectsMoreThanMaxNum(t *testing.T) {
	for _, s := range []string{
		"\x80\x80\x80\x80\x10", "\xff\xff\xff\xff\x10", "\xff\xff\xff\xff\x1f", "\xff\xff\xff\xff\x7f", "\x80\x80\x80\x80\x40",
		"\xff\xff\xff\xff\x8f\x01", "\x80\x80\x80\x80\x80\x01", "\xff\xff\xff\xff\xff\xff\xff\xff\x7f",
		"\x80\x80\x80\x80\x80\x80\x80\x80\x80\x01", strings.Repeat("\xff", 20), strings.Repeat("\x80", 20) + "\x01",
	} {
		wantNoNumber(t, []byte(s), 0)
		wantNoNumber(t, []byte("\x00"+s), 1)
	}
}

func TestGetVarRejectsBadOffsets(t *testing.T) {
	for _, s := range []string{"", "\x05", "\x05\x06\x07", "\x80\x80\x01"} {
		for _, at := range badOffsets(len(s)) {
			wantNoNumber(t, []byte(s), at)
		}
	}
	wantNoNumber(t, nil, 0)
}

func TestTextsAreRecoveredAtAnyOffset(t *testing.T) {
	texts := []string{
		"", "a", "abc", " a b ", "\x00", "\xff\x80\n", "äöü", strings.Repeat("x", 127), strings.Repeat("y", 128),
		strings.Repeat("z", impl.MaxText-1), strings.Repeat("\x80", impl.MaxText), "end",
	}
	var b []byte
	var starts []int
	for _, s := range texts {
		starts = append(starts, len(b))
		next, ok := impl.PutText(b, s)
		code, _ := impl.PutVar(b, len(s))
		if !ok || string(next) != string(code)+s {
			t.Fatalf("PutText of %d bytes", len(s))
		}
		b = next
	}
	starts = append(starts, len(b))
	for i, s := range texts {
		got, next, ok := impl.GetText(b, starts[i])
		if got != s || next != starts[i+1] || !ok {
			t.Errorf("GetText at %d = %d bytes, %d, %v", starts[i], len(got), next, ok)
		}
	}
}

func TestTextsOfMoreThanMaxTextAreRejected(t *testing.T) {
	for _, size := range []int{impl.MaxText + 1, impl.MaxText + 2, 3 * impl.MaxText} {
		long := strings.Repeat("a", size)
		if b, ok := impl.PutText([]byte("abc"), long); b != nil || ok {
			t.Errorf("PutText of %d bytes = %d bytes, %v; want nil, false", size, len(b), ok)
		}
		b, _ := impl.PutVar([]byte("abc"), size)
		wantNoText(t, append(b, long...), 3)
	}
}

func TestGetTextRejectsWhatPutTextNeverWrites(t *testing.T) {
	b, _ := impl.PutText([]byte{1, 2}, strings.Repeat("k", 200))
	for end := 2; end < len(b); end++ {
		wantNoText(t, b[:end], 2)
	}
	huge, _ := impl.PutVar(nil, impl.MaxNum)
	for _, s := range []string{"\x01", "\x03ab", "\x80", "\x80\x00", "\x83\x00abc", "\x80\x80\x80\x80\x10", string(huge) + "abc"} {
		wantNoText(t, []byte(s), 0)
	}
	for _, at := range badOffsets(len(b)) {
		wantNoText(t, b, at)
	}
	wantNoText(t, nil, 0)
}

func TestPuttingLeavesItsArgumentAlone(t *testing.T) {
	short, all := withSpare("abc")
	before := bytes.Clone(all)
	one, _ := impl.PutVar(short, 300)
	two, _ := impl.PutText(short, "other")
	if !bytes.Equal(all, before) {
		t.Errorf("the argument or its spare capacity was changed: %q", all)
	}
	for _, b := range [][]byte{one, two} {
		clear(b)
	}
	if !bytes.Equal(all, before) {
		t.Errorf("a result shares memory with the argument: %q", all)
	}
}

func TestGettingLeavesItsArgumentAlone(t *testing.T) {
	b := []byte("\x03abc\xac\x02")
	s, _, _ := impl.GetText(b, 0)
	impl.GetVar(b, 4)
	impl.Crc(b)
	if string(b) != "\x03abc\xac\x02" {
		t.Errorf("the argument was changed: %q", b)
	}
	clear(b)
	if s != "abc" {
		t.Errorf("the text changed with the bytes: %q", s)
	}
}

func TestCrc(t *testing.T) {
	known := map[string]int{
		"":                         0,
		"a":                        0xc1d04330,
		"\x00":                     0x527d5351,
		"123456789":                0xe3069283,
		strings.Repeat("\x00", 32): 0x8a9136aa,
		strings.Repeat("\xff", 32): 0x62a8ab43,
	}
	for s, want := range known {
		if got := impl.Crc([]byte(s)); got != want {
			t.Errorf("Crc(%q) = %d; want %d", s, got, want)
		}
	}
	if impl.Crc(nil) != 0 {
		t.Error("Crc(nil) is not 0")
	}
}

func TestCrcOfAllBytesAndManyLengths(t *testing.T) {
	table := crc32.MakeTable(crc32.Castagnoli)
	var b []byte
	for i := range 700 {
		if got, want := impl.Crc(b), int(crc32.Checksum(b, table)); got != want {
			t.Fatalf("Crc of %d bytes = %d; want %d", len(b), got, want)
		}
		one := []byte{byte(i)}
		if got, want := impl.Crc(one), int(crc32.Checksum(one, table)); got != want {
			t.Fatalf("Crc of the byte %d = %d; want %d", one[0], got, want)
		}
		b = append(b, byte(i*i+i/3))
	}
}

func TestNumTextAndTextNum(t *testing.T) {
	for _, n := range edgeNumbers() {
		s := strconv.Itoa(n)
		if got := impl.NumText(n); got != s {
			t.Errorf("NumText(%d) = %q", n, got)
		}
		if got, ok := impl.TextNum(s); got != n || !ok {
			t.Errorf("TextNum(%q) = %d, %v", s, got, ok)
		}
	}
	for _, n := range notNumbers() {
		if got := impl.NumText(n); got != "" {
			t.Errorf("NumText(%d) = %q; want the empty string", n, got)
		}
		if got, ok := impl.TextNum(strconv.Itoa(n)); got != 0 || ok {
			t.Errorf("TextNum of %d = %d, %v; want 0, false", n, got, ok)
		}
	}
}

func TestTextNumRejectsOtherTexts(t *testing.T) {
	for _, s := range []string{
		"", " ", "00", "01", "012", "0000000001", "-0", "-1", "+1", "+0", " 1", "1 ", "1 2", "1\n", "1.0", "1e3", "1_000", "0x10",
		"0b1", "a", "12a", "a12", "\x00", "1\x00", "٣", "４", "4294967296", "4294967300", "42949672950", "9999999999",
		"9223372036854775807", "9223372036854775808", "18446744073709551616", "18446744073709551617", strings.Repeat("9", 100),
		strings.Repeat("0", 100) + "1", "/", ":",
	} {
		if got, ok := impl.TextNum(s); got != 0 || ok {
			t.Errorf("TextNum(%q) = %d, %v; want 0, false", s, got, ok)
		}
	}
}

func TestParts(t *testing.T) {
	want := []struct {
		s string
		l []string
	}{
		{"", []string{""}},
		{" ", []string{"", ""}},
		{"   ", []string{"", "", "", ""}},
		{"a", []string{"a"}},
		{"a b", []string{"a", "b"}},
		{"a  b", []string{"a", "", "b"}},
		{" a b ", []string{"", "a", "b", ""}},
		{"  a", []string{"", "", "a"}},
		{"a  ", []string{"a", "", ""}},
		{"a\tb\nc\u00a0d e\x00f", []string{"a\tb\nc\u00a0d", "e\x00f"}},
		{"\xff \x80", []string{"\xff", "\x80"}},
	}
	for _, w := range want {
		if got := impl.Parts(w.s); !slices.Equal(got, w.l) {
			t.Errorf("Parts(%q) = %q; want %q", w.s, got, w.l)
		}
	}
	long := strings.Repeat("ab ", 5000)
	if l := impl.Parts(long); len(l) != 5001 || strings.Join(l, " ") != long {
		t.Error("a long text is not split at all of its spaces")
	}
}

func TestWordOk(t *testing.T) {
	const letters = "abcdefghijklmnopqrstuvwxyz0123456789"
	for c := range 256 {
		want := c < 128 && strings.IndexByte(letters, byte(c)) >= 0
		for _, s := range []string{string([]byte{byte(c)}), "a" + string([]byte{byte(c)}), string([]byte{byte(c)}) + "9", "a" + string([]byte{byte(c)}) + "z"} {
			if impl.WordOk(s) != want {
				t.Errorf("WordOk(%q) = %v", s, !want)
			}
		}
	}
	for size := range 40 {
		want := 1 <= size && size <= 12
		if impl.WordOk(strings.Repeat("a", size)) != want {
			t.Errorf("WordOk of %d bytes = %v", size, !want)
		}
	}
	if impl.WordOk("ä") || impl.WordOk("abcdefghijkl m") {
		t.Error("a word has other bytes")
	}
}
