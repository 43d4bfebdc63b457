package tests

import (
	"bytes"
	"encoding/binary"
	"hash/crc32"
	"math"
	"math/rand"
	"slices"
	"testing"

	"loop.example/g00661/impl"
)

// varint is PutVar by the standard library; it also encodes what is no number.
func varint(n int) string { return string(binary.AppendUvarint(nil, uint64(n))) }

func castagnoli(s string) int {
	return int(crc32.Checksum([]byte(s), crc32.MakeTable(crc32.Castagnoli)))
}

// frameHead is the part of a frame that its checksum includes, except for the data.
func frameHead(seq int, size int) string { return "\xa7" + varint(seq) + varint(size) }

// modelFrame encodes a frame by the standard library, and also one whose sequence number or length is not allowed.
func modelFrame(seq int, data string) string {
	head := frameHead(seq, len(data))
	return head + varint(castagnoli(head+data)) + data
}

// modelJournal encodes the frames with the sequence numbers seq, seq + 1 and so on.
func modelJournal(seq int, texts ...string) string {
	all := ""
	for i, s := range texts {
		all += modelFrame(seq+i, s)
	}
	return all
}

// mixedBytes returns n bytes among which all values appear, Mark too.
func mixedBytes(n int) string {
	b := make([]byte, n)
	for i := range b {
		b[i] = byte(i*7 + i/256)
	}
	return string(b)
}

func loadsOf(texts ...string) []impl.Load {
	var l []impl.Load
	for _, s := range texts {
		l = append(l, impl.Load{Data: []byte(s)})
	}
	return l
}

func textsOf(l []impl.Load) []string {
	var texts []string
	for _, load := range l {
		texts = append(texts, string(load.Data))
	}
	return texts
}

func edgeSeqs() []int {
	return []int{1, 2, 126, 127, 128, 129, 300, 16383, 16384, 2097151, 2097152, 268435455, 268435456, impl.MaxSeq - 1, impl.MaxSeq}
}

func notSeqs() []int {
	return append(notNumbers(), 0, impl.MaxSeq+1, impl.MaxSeq+2, impl.MaxNum, impl.MaxNum+2, 1<<32+5, -impl.MaxSeq)
}

func edgeLoads() []string {
	var l []string
	for _, n := range []int{0, 1, 2, 127, 128, 129, 1000, 16383, 16384, impl.MaxLoad - 1, impl.MaxLoad} {
		l = append(l, mixedBytes(n))
	}
	return l
}

func wantFrame(t *testing.T, b []byte, at int, seq int, data string, next int) {
	t.Helper()
	gotSeq, gotData, gotNext, code := impl.FrameRead(b, at)
	if gotSeq != seq || string(gotData) != data || gotNext != next || code != 0 {
		t.Errorf("FrameRead(%d bytes, %d) = %d, %d bytes, %d, %d; want %d, %d bytes, %d, 0",
			len(b), at, gotSeq, len(gotData), gotNext, code, seq, len(data), next)
	}
}

func wantNoFrame(t *testing.T, what string, b []byte, at int, want int) {
	t.Helper()
	if seq, data, next, code := impl.FrameRead(b, at); seq != 0 || len(data) != 0 || next != 0 || code != want {
		t.Errorf("%s: FrameRead(%d bytes, %d) = %d, %d bytes, %d, %d; want zero values and the code %d",
			what, len(b), at, seq, len(data), next, code, want)
	}
}

func wantJournal(t *testing.T, what string, b string, seq int, texts []string, next int) {
	t.Helper()
	l, at := impl.JournalRead([]byte(b), seq)
	if !slices.Equal(textsOf(l), texts) || at != next {
		t.Errorf("%s: JournalRead(%d bytes, %d) = %d frames to %d; want %d to %d", what, len(b), seq, len(l), at, len(texts), next)
	}
}

func TestJournalConstants(t *testing.T) {
	if got := [...]int{impl.MaxLoad, impl.MaxSeq, impl.Mark}; got != [...]int{60000, 1000000000, 167} {
		t.Errorf("MaxLoad, MaxSeq and Mark are %v", got)
	}
}

func TestFrameBytesEncodings(t *testing.T) {
	want := []struct {
		seq  int
		data string
		code string
	}{
		{1, "", "\xa7\x01\x00\xb3\xa6\xd7\xea\x06"},
		{300, "hi", "\xa7\xac\x02\x02\xca\xd7\x8c\xe2\x0ehi"},
		{impl.MaxSeq, "\xa7", "\xa7\x80\x94\xeb\xdc\x03\x01\xe1\xee\xa6\x4f\xa7"},
	}
	for _, w := range want {
		if b, ok := impl.FrameBytes(w.seq, []byte(w.data)); !ok || string(b) != w.code {
			t.Errorf("FrameBytes(%d, %q) = %q, %v; want %q", w.seq, w.data, b, ok, w.code)
		}
	}
}

func TestFramesAreRecoveredFromTheirEncodings(t *testing.T) {
	for _, seq := range edgeSeqs() {
		for _, data := range edgeLoads() {
			b, ok := impl.FrameBytes(seq, []byte(data))
			if !ok || string(b) != modelFrame(seq, data) {
				t.Fatalf("FrameBytes(%d, %d bytes) = %d bytes, %v", seq, len(data), len(b), ok)
			}
			wantFrame(t, b, 0, seq, data, len(b))
			wantFrame(t, []byte("\xa7before"+string(b)+"\xa7"), 7, seq, data, 7+len(b))
		}
	}
	b, ok := impl.FrameBytes(5, nil)
	if !ok || string(b) != modelFrame(5, "") {
		t.Error("nil is not encoded as no data")
	}
}

func TestFramesOfEveryChecksumLength(t *testing.T) {
	sizes := map[int]bool{}
	for seq := 1; seq < 60000; seq++ {
		b, _ := impl.FrameBytes(seq, nil)
		wantFrame(t, b, 0, seq, "", len(b))
		sizes[len(b)-len(frameHead(seq, 0))] = true
	}
	if !sizes[3] || !sizes[4] || !sizes[5] {
		t.Errorf("the checksums have only the lengths %v", sizes)
	}
}

func TestFrameBytesRejects(t *testing.T) {
	reject := func(seq int, size int) {
		t.Helper()
		if b, ok := impl.FrameBytes(seq, make([]byte, size)); b != nil || ok {
			t.Errorf("FrameBytes(%d, %d bytes) = %d bytes, %v; want nil, false", seq, size, len(b), ok)
		}
	}
	for _, seq := range notSeqs() {
		reject(seq, 0)
		reject(seq, 3)
		reject(seq, impl.MaxLoad+1)
	}
	for _, seq := range []int{1, 77, impl.MaxSeq} {
		reject(seq, impl.MaxLoad+1)
		reject(seq, impl.MaxLoad+2)
		reject(seq, 1<<17)
	}
}

func TestFrameReadOfOffsets(t *testing.T) {
	frame := []byte(modelFrame(9, "data"))
	for _, b := range [][]byte{nil, {}, {impl.Mark}, {5}, frame} {
		wantNoFrame(t, "the end", b, len(b), 2)
		for _, at := range badOffsets(len(b)) {
			if at != len(b) {
				wantNoFrame(t, "outside", b, at, 1)
			}
		}
	}
	long, all := withSpare(string(frame))
	wantNoFrame(t, "no more bytes", long[:0], 0, 2)
	wantNoFrame(t, "the spare capacity", long, len(long), 2)
	wantNoFrame(t, "the spare capacity", all[:1], 2, 1)
}

func TestFrameReadWithoutMark(t *testing.T) {
	frame := modelFrame(9, "data")
	for c := range 256 {
		if c == impl.Mark {
			continue
		}
		// Without a mark, it does not matter what follows.
		for _, rest := range []string{frame[1:], "", "\xff", "\x00\x00\x00", "\x80\x00"} {
			wantNoFrame(t, "another mark", []byte(string([]byte{byte(c)})+rest), 0, 2)
		}
	}
	for at := 1; at < len(frame); at++ {
		if frame[at] != impl.Mark {
			wantNoFrame(t, "within a frame", []byte(frame), at, 2)
		}
	}
}

// badVars are bytes in which GetVar finds no number, also if other bytes follow.
func badVars() []string {
	return []string{"\x80\x00", "\x81\x00", "\xff\xff\x00", "\x80\x80\x80\x80\x00", "\x80\x80\x80\x80\x10", "\xff\xff\xff\xff\xff\x01"}
}

func TestFrameReadOfNumbersThatCannotBeDecoded(t *testing.T) {
	check := func(s string) {
		t.Helper()
		wantNoFrame(t, "a number", []byte(s), 0, 3)
		wantNoFrame(t, "a number", []byte("ab"+s), 2, 3)
	}
	for _, seq := range []int{0, 1, impl.MaxSeq, impl.MaxSeq + 1} {
		for _, size := range []int{0, 1, impl.MaxLoad, impl.MaxLoad + 1, impl.MaxNum} {
			// The third number is decoded before the first two are examined.
			for _, bad := range append(badVars(), "", "\x80", "\xff\xff\xff\xff") {
				check(frameHead(seq, size) + bad)
				check("\xa7" + varint(seq) + bad)
				check("\xa7" + bad)
			}
			for _, bad := range badVars() {
				check(frameHead(seq, size) + bad + "data")
				check("\xa7" + varint(seq) + bad + "\x00data")
				check("\xa7" + bad + varint(size) + "\x00data")
			}
		}
	}
	// Each number of a frame of four bytes of data in an encoding that is one byte longer.
	head := frameHead(1, 4)
	crc := varint(castagnoli(head + "data"))
	longer := func(code string) string {
		b := []byte(code)
		b[len(b)-1] |= 128
		return string(b) + "\x00"
	}
	check("\xa7" + longer("\x01") + "\x04" + crc + "data")
	check("\xa7\x01" + longer("\x04") + crc + "data")
	check(head + longer(crc) + "data")
}

func TestFrameReadOfNumbersOutOfRange(t *testing.T) {
	seqs := []int{0, impl.MaxSeq + 1, impl.MaxSeq + 2, impl.MaxNum}
	sizes := []int{impl.MaxLoad + 1, impl.MaxLoad + 2, impl.MaxNum}
	crcs := []string{"\x00", varint(impl.MaxNum)}
	check := func(seq int, size int) {
		t.Helper()
		// Neither the length of the data nor the checksum matters.
		for _, crc := range crcs {
			wantNoFrame(t, "out of range", []byte(frameHead(seq, size)+crc), 0, 4)
			wantNoFrame(t, "out of range", []byte(frameHead(seq, size)+crc+"data"), 0, 4)
		}
		if size <= 2*impl.MaxLoad {
			wantNoFrame(t, "out of range", []byte(modelFrame(seq, mixedBytes(size))), 0, 4)
		}
	}
	for _, seq := range seqs {
		for _, size := range append(sizes, 0, 4, 5, impl.MaxLoad) {
			check(seq, size)
		}
	}
	for _, size := range sizes {
		check(1, size)
		check(impl.MaxSeq, size)
	}
}

func TestFrameReadOfIncompleteData(t *testing.T) {
	for _, seq := range []int{1, impl.MaxSeq} {
		for _, size := range []int{1, 5, impl.MaxLoad} {
			for _, crc := range []int{0, castagnoli(frameHead(seq, size) + mixedBytes(size)), impl.MaxNum} {
				head := frameHead(seq, size) + varint(crc)
				wantNoFrame(t, "no data", []byte(head), 0, 5)
				wantNoFrame(t, "less data", []byte(head+mixedBytes(size-1)), 0, 5)
			}
		}
	}
}

func TestFramesCutOffAtEveryOffset(t *testing.T) {
	for _, data := range []string{"", "a", "some data", mixedBytes(300)} {
		frame := modelFrame(70000, data)
		for end := range len(frame) {
			want := 5
			if end == 0 {
				want = 2
			} else if end < len(frame)-len(data) {
				want = 3
			}
			wantNoFrame(t, "cut off", []byte(frame[:end]), 0, want)
			// The rest of the frame in the spare capacity does not count.
			wantNoFrame(t, "cut off", []byte("abc" + frame)[:3+end], 3, want)
		}
	}
	b := []byte(modelFrame(3, mixedBytes(impl.MaxLoad)))
	for _, end := range []int{len(b) - 1, len(b) - 2, len(b) / 2, len(b) - impl.MaxLoad} {
		wantNoFrame(t, "a long frame", b[:end], 0, 5)
	}
}

func TestFrameReadOfOtherChecksums(t *testing.T) {
	const data = "some data"
	head := frameHead(77, len(data))
	right := castagnoli(head + data)
	wrong := []int{
		0, impl.MaxNum, right + 1, right - 1, right ^ 1<<31, right ^ impl.MaxNum, castagnoli(data), castagnoli(head), castagnoli(data + head),
		castagnoli(head[1:] + data), castagnoli("before" + head + data), castagnoli(head + data + "behind"), castagnoli(head + varint(0) + data),
	}
	for _, crc := range wrong {
		wantNoFrame(t, "another checksum", []byte("before"+head+varint(crc)+data+"behind"), 6, 6)
	}
	wantFrame(t, []byte("before"+head+varint(right)+data+"behind"), 6, 77, data, 6+len(head)+len(varint(right))+len(data))
}

func TestEveryChangedByteIsDetected(t *testing.T) {
	for _, data := range []string{"", "x", "some data", mixedBytes(30)} {
		for _, seq := range []int{1, 300, impl.MaxSeq} {
			frame := modelFrame(seq, data)
			for i := range frame {
				for change := 1; change < 256; change++ {
					b := []byte(frame)
					b[i] ^= byte(change)
					_, _, _, code := impl.FrameRead(b, 0)
					switch {
					case code == 0:
						t.Errorf("byte %d of a frame of %d bytes with the change %d is not detected", i, len(frame), change)
					case i == 0:
						wantNoFrame(t, "a changed mark", b, 0, 2)
					case i >= len(frame)-len(data):
						wantNoFrame(t, "a changed byte of the data", b, 0, 6)
					default:
						wantNoFrame(t, "a changed number", b, 0, code)
					}
				}
			}
		}
	}
	long := []byte(modelFrame(8, mixedBytes(impl.MaxLoad)))
	for i := len(long) - impl.MaxLoad; i < len(long); i += 1777 {
		long[i] ^= 16
		wantNoFrame(t, "a changed byte of much data", long, 0, 6)
		long[i] ^= 16
	}
}

func TestJournalsAreRecovered(t *testing.T) {
	lists := [][]string{
		{""}, {"a"}, {"", "", ""}, {"a", "", "bc"}, {modelFrame(6, "inner"), "\xa7", mixedBytes(500)}, edgeLoads(),
	}
	for _, texts := range lists {
		for _, seq := range []int{1, 5, 127, 16380, impl.MaxSeq - len(texts) + 1} {
			b, ok := impl.JournalBytes(seq, loadsOf(texts...))
			if !ok || string(b) != modelJournal(seq, texts...) {
				t.Fatalf("JournalBytes(%d, %d frames) = %d bytes, %v", seq, len(texts), len(b), ok)
			}
			wantJournal(t, "complete", string(b), seq, texts, len(b))
			for _, other := range []int{seq - 1, seq + 1, 0, -1, math.MinInt, math.MaxInt} {
				wantJournal(t, "another number", string(b), other, nil, 0)
			}
		}
	}
	many := make([]string, 2000)
	for i := range many {
		many[i] = varint(i)
	}
	b, ok := impl.JournalBytes(100, loadsOf(many...))
	if !ok {
		t.Fatal("a journal of many frames is rejected")
	}
	wantJournal(t, "many", string(b), 100, many, len(b))
}

func TestEmptyJournals(t *testing.T) {
	for _, seq := range append(edgeSeqs(), notSeqs()...) {
		for _, l := range [][]impl.Load{nil, {}} {
			// There is no frame that could fail.
			if b, ok := impl.JournalBytes(seq, l); len(b) != 0 || !ok {
				t.Errorf("JournalBytes(%d) of nothing = %d bytes, %v; want no bytes, true", seq, len(b), ok)
			}
		}
		wantJournal(t, "empty", "", seq, nil, 0)
	}
}

func TestJournalBytesRejects(t *testing.T) {
	reject := func(seq int, texts ...string) {
		t.Helper()
		if b, ok := impl.JournalBytes(seq, loadsOf(texts...)); b != nil || ok {
			t.Errorf("JournalBytes(%d, %d frames) = %d bytes, %v; want nil, false", seq, len(texts), len(b), ok)
		}
	}
	for _, seq := range notSeqs() {
		reject(seq, "a")
		reject(seq, "a", "b", "c")
	}
	reject(-1, "", "", "")
	reject(impl.MaxSeq, "a", "b")
	reject(impl.MaxSeq-1, "a", "b", "c")
	reject(impl.MaxSeq-2, "", "", "", "", "")
	long := mixedBytes(impl.MaxLoad + 1)
	reject(1, long)
	reject(1, long, "a", "b")
	reject(1, "a", long, "b")
	reject(1, "a", "b", long)
}

func TestJournalsThatEndAtMaxSeq(t *testing.T) {
	all := modelJournal(impl.MaxSeq-1, "a", "b")
	wantJournal(t, "to MaxSeq", all, impl.MaxSeq-1, []string{"a", "b"}, len(all))
	// A frame beyond MaxSeq is not one, even with the right checksum.
	wantJournal(t, "beyond MaxSeq", all+modelFrame(impl.MaxSeq+1, "c"), impl.MaxSeq-1, []string{"a", "b"}, len(all))
	wantJournal(t, "beyond MaxSeq", modelJournal(impl.MaxSeq+1, "c", "d"), impl.MaxSeq+1, nil, 0)
	wantJournal(t, "before 1", modelJournal(0, "c", "d"), 0, nil, 0)
}

func TestTornJournals(t *testing.T) {
	texts := []string{"first", "", mixedBytes(200), "\xa7\x01", "last"}
	const seq = 126
	all := modelJournal(seq, texts...)
	var ends []int
	for i := range texts {
		ends = append(ends, len(modelJournal(seq, texts[:i+1]...)))
	}
	for size := range len(all) + 1 {
		complete, end := 0, 0
		for complete < len(texts) && ends[complete] <= size {
			end = ends[complete]
			complete++
		}
		wantJournal(t, "torn", all[:size], seq, texts[:complete], end)
		wantJournal(t, "torn and continued with zeros", all[:size]+"\x00\x00\x00", seq, texts[:complete], end)
	}
}

func TestJournalsWithAChangedByte(t *testing.T) {
	texts := []string{"first", "", "the third", "\xa7\x01", "last"}
	const seq = 200
	all := modelJournal(seq, texts...)
	for i := range len(all) {
		complete, end := 0, 0
		for next := len(modelFrame(seq, texts[0])); next <= i; next += len(modelFrame(seq+complete, texts[complete])) {
			end = next
			complete++
		}
		for _, change := range []byte{1, 2, 16, 128, 255} {
			b := []byte(all)
			b[i] ^= change
			wantJournal(t, "changed", string(b), seq, texts[:complete], end)
		}
	}
}

func TestJournalsThatContinueOtherwise(t *testing.T) {
	start := modelJournal(5, "a", "b")
	want := []string{"a", "b"}
	for _, next := range []int{1, 5, 6, 8, 9, 100, impl.MaxSeq} {
		wantJournal(t, "another number", start+modelFrame(next, "c"), 5, want, len(start))
		wantJournal(t, "another number", start+modelFrame(next, "c")+modelFrame(7, "d"), 5, want, len(start))
	}
	for _, rest := range []string{"\xa7", "\x00", "junk", "\xa7\x07\x00", modelFrame(7, "c")[1:], "\x00" + modelFrame(7, "c")} {
		wantJournal(t, "no frame", start+rest, 5, want, len(start))
	}
	wantJournal(t, "junk before", "\x00"+start, 5, nil, 0)
	wantJournal(t, "only from the start", start, 6, nil, 0)
}

// modelRead reads a frame by the standard library: the numbers are encoded again to see whether their encoding is the shortest.
func modelRead(s string, at int) (int, string, int, int) {
	if at < 0 || at > len(s) {
		return 0, "", 0, 1
	}
	if at == len(s) || s[at] != 167 {
		return 0, "", 0, 2
	}
	var numbers []int
	next, crcAt := at+1, 0
	for range 3 {
		n, size := binary.Uvarint([]byte(s[next:]))
		if size <= 0 || n > impl.MaxNum || varint(int(n)) != s[next:next+size] {
			return 0, "", 0, 3
		}
		numbers = append(numbers, int(n))
		crcAt = next
		next += size
	}
	seq, size, crc := numbers[0], numbers[1], numbers[2]
	switch {
	case seq == 0 || seq > 1000000000 || size > 60000:
		return 0, "", 0, 4
	case len(s[next:]) < size:
		return 0, "", 0, 5
	case castagnoli(s[at:crcAt]+s[next:next+size]) != crc:
		return 0, "", 0, 6
	}
	return seq, s[next : next+size], next + size, 0
}

func TestRandomBytesAreReadLikeTheModel(t *testing.T) {
	r := rand.New(rand.NewSource(3))
	codes := map[int]int{}
	for range 60000 {
		b := randomJournal(r)
		at := r.Intn(len(b)+5) - 2
		if r.Intn(3) > 0 {
			at = 0
		}
		seq, data, next, code := modelRead(string(b), at)
		codes[code]++
		if code == 0 {
			wantFrame(t, b, at, seq, data, next)
		} else {
			wantNoFrame(t, "random", b, at, code)
		}
		var texts []string
		end := 0
		for {
			seq, data, next, code := modelRead(string(b), end)
			if code != 0 || seq != 5+len(texts) {
				break
			}
			texts = append(texts, data)
			end = next
		}
		wantJournal(t, "random", string(b), 5, texts, end)
	}
	for code := range 7 {
		if codes[code] < 100 {
			t.Errorf("the code %d was seen only %d times", code, codes[code])
		}
	}
}

// randomJournal returns some frames, most of them whole and in order, with a few changes.
func randomJournal(r *rand.Rand) []byte {
	var b []byte
	seq := 5
	for range r.Intn(4) {
		if r.Intn(9) == 0 {
			seq = []int{0, 4, impl.MaxSeq, impl.MaxSeq + 1, impl.MaxNum}[r.Intn(5)]
		}
		data := mixedBytes(r.Intn(12))
		b = append(b, modelFrame(seq, data)...)
		seq++
	}
	for range r.Intn(3) {
		if len(b) > 0 {
			b[r.Intn(len(b))] = []byte{0, 1, 127, 128, 167, 255, byte(r.Intn(256))}[r.Intn(7)]
		}
	}
	return b[:len(b)-r.Intn(len(b)+1)*r.Intn(2)]
}

// overwrite changes every byte of the slice and of its spare capacity.
func overwrite(b []byte) {
	b = b[:cap(b)]
	for i := range b {
		b[i] ^= 255
	}
}

func TestFramesShareNothing(t *testing.T) {
	data, allData := withSpare("some data")
	frame, allFrame := withSpare(modelFrame(4, "some data"))
	dataBefore, frameBefore := bytes.Clone(allData), bytes.Clone(allFrame)
	written, _ := impl.FrameBytes(4, data)
	_, read, _, _ := impl.FrameRead(frame, 0)
	overwrite(written)
	overwrite(read)
	if !bytes.Equal(allData, dataBefore) || !bytes.Equal(allFrame, frameBefore) {
		t.Errorf("an argument is changed, or shares memory with a result: %q, %q", allData, allFrame)
	}
	written, _ = impl.FrameBytes(4, data)
	_, read, _, _ = impl.FrameRead(frame, 0)
	overwrite(data)
	overwrite(frame)
	if string(written) != modelFrame(4, "some data") || string(read) != "some data" {
		t.Errorf("a result changes with an argument: %q, %q", written, read)
	}
	empty, allEmpty := withSpare(modelFrame(4, ""))
	_, read, _, _ = impl.FrameRead(empty, 0)
	emptyBefore := bytes.Clone(allEmpty)
	overwrite(append(read, 1, 2, 3))
	if !bytes.Equal(allEmpty, emptyBefore) {
		t.Error("no data shares memory with the argument")
	}
}

func TestJournalsShareNothing(t *testing.T) {
	texts := []string{"one", "", "two", "three"}
	all := []byte("onetwothree")
	l := append([]impl.Load{{Data: all[:3]}, {}, {Data: all[3:6]}, {Data: all[6:]}}, loadsOf("spare", "spare")...)
	b, allB := withSpare(modelJournal(8, texts...))
	before := bytes.Clone(allB)

	written, _ := impl.JournalBytes(8, l[:4])
	read, _ := impl.JournalRead(b, 8)
	overwrite(written)
	for i := range read {
		for k, load := range read {
			if k >= i && string(load.Data) != texts[k] {
				t.Errorf("the data %d is %q; it shares memory with other data", k, load.Data)
			}
		}
		overwrite(append(read[i].Data, 1))
		overwrite(read[i].Data)
	}
	clear(read[:cap(read)])
	if !bytes.Equal(allB, before) || string(all) != "onetwothree" {
		t.Errorf("an argument is changed, or shares memory with a result: %q, %q", allB, all)
	}
	if !slices.Equal(textsOf(l), append(slices.Clone(texts), "spare", "spare")) {
		t.Errorf("the list is changed: %q", textsOf(l))
	}

	written, _ = impl.JournalBytes(8, l[:4])
	read, _ = impl.JournalRead(b, 8)
	overwrite(b)
	overwrite(all)
	clear(l)
	if string(written) != modelJournal(8, texts...) || !slices.Equal(textsOf(read), texts) {
		t.Errorf("a result changes with an argument: %q, %q", written, textsOf(read))
	}
}
