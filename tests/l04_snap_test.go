package tests

import (
	"bytes"
	"encoding/binary"
	"fmt"
	"math"
	"math/rand"
	"slices"
	"strings"
	"testing"

	"loop.example/g00661/impl"
)

// snapHead is the part of a snapshot that its checksum includes, except for the data.
func snapHead(gen int, seq int, size int) string {
	return "SNAP" + varint(gen) + varint(seq) + varint(size)
}

// modelSnap encodes a snapshot by the standard library, and also one with numbers that are not allowed.
func modelSnap(gen int, seq int, data string) string {
	head := snapHead(gen, seq, len(data))
	return head + varint(castagnoli(head+data)) + data
}

func edgeGens() []int {
	return []int{1, 2, 127, 128, 300, 16383, 16384, 2097152, 268435455, 268435456, impl.MaxGen - 1, impl.MaxGen}
}

func notGens() []int {
	return append(notNumbers(), 0, impl.MaxGen+1, impl.MaxGen+2, impl.MaxNum, impl.MaxNum+2, 1<<32+5, -impl.MaxGen)
}

func edgeSnapTexts() []string {
	var l []string
	for _, n := range []int{0, 1, 2, 127, 128, 16383, 16384, impl.MaxLoad + 1, impl.MaxSnap - 1, impl.MaxSnap} {
		l = append(l, mixedBytes(n))
	}
	return l
}

func wantSnap(t *testing.T, b []byte, gen int, seq int, data string) {
	t.Helper()
	gotGen, gotSeq, gotData, code := impl.SnapRead(b)
	if gotGen != gen || gotSeq != seq || string(gotData) != data || code != 0 {
		t.Errorf("SnapRead(%d bytes) = %d, %d, %d bytes, %d; want %d, %d, %d bytes, 0",
			len(b), gotGen, gotSeq, len(gotData), code, gen, seq, len(data))
	}
}

func wantNoSnap(t *testing.T, what string, s string, want int) {
	t.Helper()
	if gen, seq, data, code := impl.SnapRead([]byte(s)); gen != 0 || seq != 0 || len(data) != 0 || code != want {
		t.Errorf("%s: SnapRead(%d bytes) = %d, %d, %d bytes, %d; want zero values and the code %d",
			what, len(s), gen, seq, len(data), code, want)
	}
}

func wantNewest(t *testing.T, what string, d impl.Disk, gen int, seq int, data string) {
	t.Helper()
	gotGen, gotSeq, gotData := impl.Newest(d)
	if gotGen != gen || gotSeq != seq || string(gotData) != data {
		t.Errorf("%s: Newest = %d, %d, %d bytes; want %d, %d, %d bytes", what, gotGen, gotSeq, len(gotData), gen, seq, len(data))
	}
}

func TestSnapConstants(t *testing.T) {
	if got := [...]int{impl.MaxSnap, impl.MaxGen}; got != [...]int{150000, 1000000000} {
		t.Errorf("MaxSnap and MaxGen are %v", got)
	}
	if impl.SnapHead != "SNAP" || impl.TempFile != "temp" {
		t.Errorf("SnapHead and TempFile are %q and %q", impl.SnapHead, impl.TempFile)
	}
}

func TestSnapBytesEncodings(t *testing.T) {
	want := []struct {
		gen  int
		seq  int
		data string
		code string
	}{
		{1, 1, "", "SNAP\x01\x01\x00\xf8\xae\xb7\xce\x01"},
		{2, 7, "xy", "SNAP\x02\x07\x02\x95\xa8\xae\xe2\x03xy"},
		{impl.MaxGen, 300, "SNAP", "SNAP\x80\x94\xeb\xdc\x03\xac\x02\x04\xe5\xfe\xc5\xf0\x08SNAP"},
	}
	for _, w := range want {
		if b, ok := impl.SnapBytes(w.gen, w.seq, []byte(w.data)); !ok || string(b) != w.code {
			t.Errorf("SnapBytes(%d, %d, %q) = %q, %v; want %q", w.gen, w.seq, w.data, b, ok, w.code)
		}
	}
}

func TestSnapshotsAreRecoveredFromTheirEncodings(t *testing.T) {
	check := func(gen int, seq int, data string) {
		t.Helper()
		b, ok := impl.SnapBytes(gen, seq, []byte(data))
		if !ok || string(b) != modelSnap(gen, seq, data) {
			t.Fatalf("SnapBytes(%d, %d, %d bytes) = %d bytes, %v", gen, seq, len(data), len(b), ok)
		}
		wantSnap(t, b, gen, seq, data)
	}
	for _, gen := range edgeGens() {
		for _, seq := range edgeSeqs() {
			check(gen, seq, "")
			check(gen, seq, "some data")
		}
	}
	for _, data := range append(edgeSnapTexts(), "SNAP", modelSnap(5, 6, "inner")) {
		check(1, 1, data)
		check(impl.MaxGen, impl.MaxSeq, data)
	}
	if b, ok := impl.SnapBytes(4, 5, nil); !ok || string(b) != modelSnap(4, 5, "") {
		t.Error("nil is not encoded as no data")
	}
}

func TestSnapshotsOfEveryChecksumLength(t *testing.T) {
	sizes := map[int]bool{}
	for seq := 1; seq < 60000; seq++ {
		b, _ := impl.SnapBytes(3, seq, nil)
		wantSnap(t, b, 3, seq, "")
		sizes[len(b)-len(snapHead(3, seq, 0))] = true
	}
	if !sizes[3] || !sizes[4] || !sizes[5] {
		t.Errorf("the checksums have only the lengths %v", sizes)
	}
}

func TestSnapBytesRejects(t *testing.T) {
	reject := func(gen int, seq int, size int) {
		t.Helper()
		if b, ok := impl.SnapBytes(gen, seq, make([]byte, size)); b != nil || ok {
			t.Errorf("SnapBytes(%d, %d, %d bytes) = %d bytes, %v; want nil, false", gen, seq, size, len(b), ok)
		}
	}
	for _, size := range []int{0, 3, impl.MaxSnap, impl.MaxSnap + 1} {
		for _, gen := range notGens() {
			reject(gen, 1, size)
			reject(gen, impl.MaxSeq, size)
			reject(gen, 0, size)
		}
		for _, seq := range notSeqs() {
			reject(1, seq, size)
			reject(impl.MaxGen, seq, size)
		}
	}
	for _, size := range []int{impl.MaxSnap + 1, impl.MaxSnap + 2, 1 << 20} {
		reject(1, 1, size)
		reject(impl.MaxGen, impl.MaxSeq, size)
	}
}

func TestSnapReadWithoutHead(t *testing.T) {
	whole := modelSnap(2, 7, "data")
	if gen, seq, data, code := impl.SnapRead(nil); gen != 0 || seq != 0 || data != nil || code != 1 {
		t.Errorf("SnapRead(nil) = %d, %d, %v, %d", gen, seq, data, code)
	}
	for size := range len("SNAP") {
		wantNoSnap(t, "a beginning of the head", "SNAP"[:size], 1)
		if size > 0 {
			// The rest of the head in the spare capacity does not count.
			if _, _, _, code := impl.SnapRead([]byte(whole)[:size]); code != 1 {
				t.Errorf("SnapRead of %d bytes of a snapshot has the code %d", size, code)
			}
		}
	}
	// Without the head, it does not matter what follows.
	for _, rest := range []string{"", whole[4:], "\x80\x00", "\x00\x00\x00\x00", snapHead(2, 7, 4)[4:] + "\x00data", whole} {
		for _, head := range []string{"snap", "SNAp", "sNAP", "SNA", "NAP", "SNA\x00", "SSNAP", " SNAP", "\x00SNAP", "PANS", "TEMP"} {
			if strings.HasPrefix(head+rest, "SNAP") {
				continue
			}
			wantNoSnap(t, "another head", head+rest, 1)
		}
	}
}

func TestSnapReadOfNumbersThatCannotBeDecoded(t *testing.T) {
	check := func(numbers ...string) {
		t.Helper()
		wantNoSnap(t, "a number", "SNAP"+strings.Join(numbers, ""), 2)
	}
	for _, gen := range []int{0, 1, impl.MaxGen, impl.MaxGen + 1} {
		for _, seq := range []int{0, 1, impl.MaxSeq, impl.MaxSeq + 1} {
			for _, size := range []int{0, 1, impl.MaxSnap, impl.MaxSnap + 1, impl.MaxNum} {
				g, s, n := varint(gen), varint(seq), varint(size)
				// The fourth number is decoded before the others are examined.
				for _, cut := range append(badVars(), "", "\x80", "\xff\xff\xff\xff") {
					check(g, s, n, cut)
					check(g, s, cut)
					check(g, cut)
					check(cut)
				}
				for _, bad := range badVars() {
					check(g, s, n, bad, "d")
					check(g, s, bad, "\x00", "d")
					check(g, bad, n, "\x00", "d")
					check(bad, s, n, "\x00", "d")
				}
			}
		}
	}
}

func TestSnapReadOfLongerEncodings(t *testing.T) {
	// Each number of a snapshot of four bytes of data in an encoding that is one byte longer, with the checksum of these bytes.
	longer := func(code string) string {
		b := []byte(code)
		b[len(b)-1] |= 128
		return string(b) + "\x00"
	}
	for i := range 3 {
		numbers := []string{"\x02", "\x07", "\x04"}
		numbers[i] = longer(numbers[i])
		head := "SNAP" + strings.Join(numbers, "")
		wantNoSnap(t, "a longer encoding", head+varint(castagnoli(head+"data"))+"data", 2)
	}
	head := snapHead(2, 7, 4)
	wantNoSnap(t, "a longer checksum", head+longer("\x05")+"data", 2)
	wantSnap(t, []byte(head+varint(castagnoli(head+"data"))+"data"), 2, 7, "data")
}

func TestSnapReadOfNumbersOutOfRange(t *testing.T) {
	check := func(gen int, seq int, data string) {
		t.Helper()
		head := snapHead(gen, seq, len(data))
		wantNoSnap(t, "the right checksum", modelSnap(gen, seq, data), 3)
		wantNoSnap(t, "a wrong checksum", head+"\x00"+data, 3)
		wantNoSnap(t, "a wrong length", modelSnap(gen, seq, data)+"x", 3)
	}
	for _, data := range []string{"", "data", mixedBytes(impl.MaxSnap)} {
		for _, gen := range []int{0, impl.MaxGen + 1, impl.MaxGen + 2, impl.MaxNum} {
			check(gen, 1, data)
			check(gen, impl.MaxSeq, data)
		}
		for _, seq := range []int{0, impl.MaxSeq + 1, impl.MaxSeq + 2, impl.MaxNum} {
			check(1, seq, data)
			check(impl.MaxGen, seq, data)
			check(0, seq, data)
		}
	}
	for _, size := range []int{impl.MaxSnap + 1, impl.MaxSnap + 2, impl.MaxDisk} {
		check(1, 1, mixedBytes(size))
		check(impl.MaxGen, impl.MaxSeq, mixedBytes(size))
	}
}

func TestSnapReadOfOtherLengths(t *testing.T) {
	for _, data := range []string{"", "a", "data", mixedBytes(1000), mixedBytes(impl.MaxSnap)} {
		for _, size := range []int{0, 1, 2, 3, 4, 5, 8, 999, 1000, 1001, impl.MaxSnap - 1, impl.MaxSnap, impl.MaxSnap + 1, impl.MaxNum} {
			head := snapHead(3, 9, size)
			if size == len(data) {
				wantSnap(t, []byte(head+varint(castagnoli(head+data))+data), 3, 9, data)
				continue
			}
			wantNoSnap(t, "the right checksum", head+varint(castagnoli(head+data))+data, 3)
			wantNoSnap(t, "a wrong checksum", head+"\x00"+data, 3)
			if size < len(data) {
				wantNoSnap(t, "the checksum of a part", head+varint(castagnoli(head+data[:size]))+data, 3)
			}
		}
	}
}

func TestSnapshotsCutOffOrContinued(t *testing.T) {
	for _, data := range []string{"", "a", "some data", mixedBytes(300)} {
		whole := modelSnap(70000, 123456, data)
		for end := range len(whole) {
			want := 3
			if end < len("SNAP") {
				want = 1
			} else if end < len(whole)-len(data) {
				want = 2
			}
			wantNoSnap(t, "cut off", whole[:end], want)
			// The rest of the snapshot in the spare capacity does not count.
			if gen, seq, read, code := impl.SnapRead([]byte(whole)[:end]); gen != 0 || seq != 0 || len(read) != 0 || code != want {
				t.Errorf("SnapRead of %d of %d bytes = %d, %d, %q, %d", end, len(whole), gen, seq, read, code)
			}
		}
		for c := range 256 {
			wantNoSnap(t, "a byte more", whole+string([]byte{byte(c)}), 3)
		}
		wantNoSnap(t, "twice", whole+whole, 3)
	}
	long := modelSnap(1, 2, mixedBytes(impl.MaxSnap))
	wantNoSnap(t, "a byte more", long+"x", 3)
	wantNoSnap(t, "a byte less", long[:len(long)-1], 3)
	wantNoSnap(t, "no data", long[:len(long)-impl.MaxSnap], 3)
}

func TestSnapReadOfOtherChecksums(t *testing.T) {
	const data = "some data"
	head := snapHead(77, 88, len(data))
	right := castagnoli(head + data)
	wrong := []int{
		0, impl.MaxNum, right + 1, right - 1, right ^ 1<<31, right ^ impl.MaxNum, castagnoli(data), castagnoli(head), castagnoli(data + head),
		castagnoli(head[4:] + data), castagnoli(head + varint(0) + data), castagnoli(snapHead(77, 87, len(data)) + data),
	}
	for _, crc := range wrong {
		wantNoSnap(t, "another checksum", head+varint(crc)+data, 4)
	}
	wantSnap(t, []byte(head+varint(right)+data), 77, 88, data)
}

func TestEveryChangedByteOfASnapshotIsDetected(t *testing.T) {
	for _, data := range []string{"", "x", "some data", mixedBytes(30)} {
		for _, gen := range []int{1, 300, impl.MaxGen} {
			whole := modelSnap(gen, 5000, data)
			for i := range whole {
				for change := 1; change < 256; change++ {
					b := []byte(whole)
					b[i] ^= byte(change)
					_, _, _, code := impl.SnapRead(b)
					switch {
					case code == 0:
						t.Errorf("byte %d of a snapshot of %d bytes with the change %d is not detected", i, len(whole), change)
					case i < len("SNAP"):
						wantNoSnap(t, "a changed head", string(b), 1)
					case i >= len(whole)-len(data):
						wantNoSnap(t, "a changed byte of the data", string(b), 4)
					default:
						wantNoSnap(t, "a changed number", string(b), code)
					}
				}
			}
		}
	}
	long := []byte(modelSnap(8, 9, mixedBytes(impl.MaxSnap)))
	for i := len(long) - impl.MaxSnap; i < len(long); i += 7777 {
		long[i] ^= 16
		wantNoSnap(t, "a changed byte of much data", string(long), 4)
		long[i] ^= 16
	}
}

// modelSnapRead reads a snapshot by the standard library: the numbers are encoded again to see whether their encoding is the shortest.
func modelSnapRead(s string) (int, int, string, int) {
	rest, found := strings.CutPrefix(s, "SNAP")
	if !found {
		return 0, 0, "", 1
	}
	var numbers []int
	head := ""
	for range 4 {
		head = s[:len(s)-len(rest)]
		n, size := binary.Uvarint([]byte(rest))
		if size <= 0 || n > impl.MaxNum || varint(int(n)) != rest[:size] {
			return 0, 0, "", 2
		}
		numbers = append(numbers, int(n))
		rest = rest[size:]
	}
	gen, seq := numbers[0], numbers[1]
	switch {
	case gen == 0 || gen > 1000000000 || seq == 0 || seq > 1000000000 || numbers[2] != len(rest) || len(rest) > 150000:
		return 0, 0, "", 3
	case castagnoli(head+rest) != numbers[3]:
		return 0, 0, "", 4
	}
	return gen, seq, rest, 0
}

// randomSnap returns a snapshot, often with a few changes.
func randomSnap(r *rand.Rand, gen int) string {
	seq := []int{1, 2, 127, 128, 70000, impl.MaxSeq, impl.MaxSeq + 1, 0}[r.Intn(8)]
	b := []byte(modelSnap(gen, seq, mixedBytes(r.Intn(12))))
	if r.Intn(2) > 0 {
		return string(b)
	}
	for range r.Intn(3) {
		b[4*r.Intn(2)+r.Intn(len(b)-4)] = []byte{0, 1, 127, 128, 'S', 255, byte(r.Intn(256))}[r.Intn(7)]
	}
	if r.Intn(3) == 0 {
		b = append(b, mixedBytes(r.Intn(3))...)
	}
	return string(b[:len(b)-r.Intn(len(b)+1)*r.Intn(2)])
}

func TestRandomSnapshotsAreReadLikeTheModel(t *testing.T) {
	r := rand.New(rand.NewSource(4))
	codes := map[int]int{}
	for range 60000 {
		s := randomSnap(r, []int{0, 1, 5, 200, impl.MaxGen, impl.MaxGen + 1}[r.Intn(6)])
		gen, seq, data, code := modelSnapRead(s)
		codes[code]++
		if code == 0 {
			wantSnap(t, []byte(s), gen, seq, data)
		} else {
			wantNoSnap(t, "random", s, code)
		}
	}
	for code := range 5 {
		if codes[code] < 100 {
			t.Errorf("the code %d was seen only %d times", code, codes[code])
		}
	}
}

func TestNamesOfGenerations(t *testing.T) {
	for _, gen := range append(edgeGens(), 9, 10, 12, 99, 100, 999999999) {
		snap, log := impl.SnapName(gen), impl.LogName(gen)
		if snap != fmt.Sprintf("snap.%d", gen) || log != fmt.Sprintf("log.%d", gen) {
			t.Errorf("the names of %d are %q and %q", gen, snap, log)
		}
		for _, name := range []string{snap, log} {
			if !impl.NameOk(name) {
				t.Errorf("%q is not a name", name)
			}
			if got, ok := impl.GenOf(name); got != gen || !ok {
				t.Errorf("GenOf(%q) = %d, %v", name, got, ok)
			}
		}
	}
	for _, gen := range notGens() {
		if snap, log := impl.SnapName(gen), impl.LogName(gen); snap != "" || log != "" {
			t.Errorf("the names of %d are %q and %q", gen, snap, log)
		}
	}
}

func TestGenOfRejectsOtherNames(t *testing.T) {
	numbers := []string{
		"", "0", "00", "01", "012", "0001", "+1", "-1", "-0", "+", "-", "1000000001", "4294967295", "4294967296", "4294967297", "18446744073709551617",
		"99999999999999999999999", "1 ", " 1", "1.", ".1", "1.1", "1,000", "1_0", "0x1", "1e3", "a", "1a", "a1", "1\n", "1\x00", "\x001", "\xd9\xa1",
	}
	names := []string{
		"", "1", "temp", "snap", "log", "snap1", "log1", "snaps.1", "logs.1", "sna.1", "lo.1", "Snap.1", "SNAP.1", "LOG.1", "xsnap.1", "xlog.1",
		" snap.1", " log.1", ".snap.1", "snap.snap.1", "snap.log.1", "log.snap.1", "log.log.1", "snaplog.1", "temp.1", "snap:1", "log/1", "snap 1",
		"snap\x001", "1.snap", strings.Repeat("snap.1", 1000), "snap." + strings.Repeat("0", 1000) + "1", "log." + strings.Repeat("9", 1000),
	}
	for _, number := range numbers {
		names = append(names, "snap."+number, "log."+number)
	}
	for _, name := range names {
		if gen, ok := impl.GenOf(name); gen != 0 || ok {
			t.Errorf("GenOf(%q) = %d, %v; want 0, false", name, gen, ok)
		}
	}
}

// entry is a file of a disk that diskWith builds.
type entry struct {
	name string
	body string
}

// diskWith returns a disk whose durable directory links these files. They are created in the given order.
func diskWith(t *testing.T, entries ...entry) impl.Disk {
	t.Helper()
	d := impl.Disk{Room: impl.MaxDisk, Fuse: -1, Next: len(entries) + 1}
	for i, e := range entries {
		d.Files = append(d.Files, impl.File{Id: i + 1, Body: []byte(e.body), Safe: len(e.body)})
		d.Kept = append(d.Kept, impl.Link{Name: e.name, Id: i + 1})
	}
	slices.SortFunc(d.Kept, func(a, b impl.Link) int { return strings.Compare(a.Name, b.Name) })
	if !impl.DiskOk(d) {
		t.Fatalf("the disk of %d files is not valid", len(entries))
	}
	return d
}

// snapEntry is an intact snapshot under its name.
func snapEntry(gen int, seq int, data string) entry {
	return entry{fmt.Sprintf("snap.%d", gen), modelSnap(gen, seq, data)}
}

func mustDo(t *testing.T, d impl.Disk, ops ...impl.DiskOp) impl.Disk {
	t.Helper()
	for _, op := range ops {
		next, code := impl.DiskDo(d, op)
		if code != 0 {
			t.Fatalf("DiskDo of %d %q has the code %d", op.Kind, op.Name, code)
		}
		d = next
	}
	return d
}

func TestNewestWithoutSnapshots(t *testing.T) {
	whole := modelSnap(2, 7, "data")
	disks := map[string]impl.Disk{
		"no files":                               diskWith(t),
		"an empty file":                          diskWith(t, entry{"snap.2", ""}),
		"journals":                               diskWith(t, entry{"log.1", modelJournal(1, "a")}, entry{"log.2", ""}),
		"a snapshot under the name of a journal": diskWith(t, entry{"log.2", whole}),
		"a snapshot that is not renamed yet":     diskWith(t, entry{"temp", whole}),
		"a snapshot under other names": diskWith(t, entry{"snap.02", whole}, entry{"snap.", whole}, entry{"snap.2.", whole}, entry{".snap.2", whole},
			entry{"snap2", whole}, entry{"snap", whole}, entry{"2", whole}),
		"generations that are none": diskWith(t, entry{"snap.0", modelSnap(0, 7, "data")}, entry{"snap.1000000001", modelSnap(impl.MaxGen+1, 7, "data")}),
		"another generation":        diskWith(t, entry{"snap.1", whole}, entry{"snap.3", whole}),
		"each defect": diskWith(t, entry{"snap.2", "SNA"}, entry{"snap.3", snapHead(3, 7, 4)}, entry{"snap.4", modelSnap(4, 7, "data") + "x"},
			entry{"snap.5", snapHead(5, 7, 4) + "\x00data"}, entry{"snap.6", modelSnap(6, 0, "data")}),
	}
	for what, d := range disks {
		wantNewest(t, what, d, 0, 0, "")
		d.Fuse = 0
		wantNewest(t, what+" and no power", d, 0, 0, "")
	}
	if gen, seq, data := impl.Newest(impl.Disk{}); gen != 0 || seq != 0 || data != nil {
		t.Errorf("Newest of the zero value = %d, %d, %v", gen, seq, data)
	}
}

func TestNewestIsTheGreatestIntactGeneration(t *testing.T) {
	// 10 is greater than 9, but its name is less.
	wantNewest(t, "9 and 10", diskWith(t, snapEntry(9, 1, "nine"), snapEntry(10, 2, "ten")), 10, 2, "ten")
	wantNewest(t, "10 and 9", diskWith(t, snapEntry(10, 2, "ten"), snapEntry(9, 1, "nine")), 10, 2, "ten")
	gens := []int{100, 20, 3, 1, 99, impl.MaxGen, 1000}
	var entries []entry
	greatest := 0
	for _, gen := range gens {
		// A greater generation counts, not a greater sequence number.
		entries = append(entries, snapEntry(gen, impl.MaxSeq-gen+1, "data of "+varint(gen)))
		greatest = max(greatest, gen)
		d := diskWith(t, append(slices.Clone(entries), entry{"log.2000", ""}, entry{"temp", modelSnap(2000, 1, "")})...)
		wantNewest(t, fmt.Sprint(greatest), d, greatest, impl.MaxSeq-greatest+1, "data of "+varint(greatest))
		d.Fuse = 0
		wantNewest(t, fmt.Sprint(greatest, " without power"), d, greatest, impl.MaxSeq-greatest+1, "data of "+varint(greatest))
	}
	for _, data := range []string{"", "x", mixedBytes(impl.MaxSnap)} {
		wantNewest(t, "one", diskWith(t, snapEntry(1, 1, data)), 1, 1, data)
		wantNewest(t, "the last one", diskWith(t, snapEntry(impl.MaxGen, impl.MaxSeq, data)), impl.MaxGen, impl.MaxSeq, data)
	}
}

func TestNewestPassesOverDamagedSnapshots(t *testing.T) {
	whole := modelSnap(10, 7, "data")
	for i := range whole {
		changed := []byte(whole)
		changed[i] ^= 1
		for _, damaged := range []string{string(changed), whole[:i], whole[:i] + whole[i+1:], whole[:i] + "\x00" + whole[i:]} {
			d := diskWith(t, snapEntry(9, 5, "nine"), entry{"snap.10", damaged}, snapEntry(8, 6, "eight"))
			wantNewest(t, "damaged", d, 9, 5, "nine")
		}
	}
	wantNewest(t, "a byte more", diskWith(t, entry{"snap.10", whole + "x"}, snapEntry(2, 3, "two")), 2, 3, "two")
	wantNewest(t, "too long", diskWith(t, entry{"snap.10", modelSnap(10, 7, mixedBytes(impl.MaxSnap+1))}, snapEntry(2, 3, "two")), 2, 3, "two")
	for _, gen := range []int{1, 2, 9, 11, impl.MaxGen} {
		d := diskWith(t, snapEntry(3, 4, "three"), entry{"snap.10", modelSnap(gen, 7, "data")})
		wantNewest(t, "another generation", d, 3, 4, "three")
	}
	// Neither of two snapshots with exchanged names counts.
	d := diskWith(t, entry{"snap.4", modelSnap(5, 1, "five")}, entry{"snap.5", modelSnap(4, 1, "four")}, snapEntry(3, 1, "three"))
	wantNewest(t, "exchanged", d, 3, 1, "three")
}

func TestNewestReadsTheDirectoryAsItIsNow(t *testing.T) {
	two := modelSnap(2, 6, "two")
	d := diskWith(t, snapEntry(1, 4, "one"))
	d = mustDo(t, d, opCreate("temp"), opAppend("temp", two), opSync("temp"))
	wantNewest(t, "before the rename", d, 1, 4, "one")
	d = mustDo(t, d, opRename("temp", "snap.2"))
	wantNewest(t, "renamed", d, 2, 6, "two")
	lost, _ := impl.DiskCrash(d, 0, nil)
	wantNewest(t, "the rename is lost", lost, 1, 4, "one")
	named, _ := impl.DiskCrash(d, 2, nil)
	wantNewest(t, "the rename is kept", named, 2, 6, "two")
	wantNewest(t, "the directory is synced", mustDo(t, d, opSyncDir()), 2, 6, "two")
	wantNewest(t, "removed", mustDo(t, d, opRemove("snap.2")), 1, 4, "one")
	wantNewest(t, "both are removed", mustDo(t, d, opRemove("snap.2"), opRemove("snap.1")), 0, 0, "")
	wantNewest(t, "replaced", mustDo(t, d, opRename("snap.2", "snap.1")), 0, 0, "")
	wantNewest(t, "renamed to a journal", mustDo(t, d, opRename("snap.2", "log.2")), 1, 4, "one")

	// Bytes that are not durable yet are there until a crash.
	e := mustDo(t, diskWith(t, snapEntry(1, 4, "one")), opCreate("snap.2"), opAppend("snap.2", two[:5]))
	wantNewest(t, "a part is written", e, 1, 4, "one")
	e = mustDo(t, e, opAppend("snap.2", two[5:]), opSyncDir())
	wantNewest(t, "all is written", e, 2, 6, "two")
	for cut := range two {
		torn, _ := impl.DiskCrash(e, 0, []int{cut})
		wantNewest(t, "torn", torn, 1, 4, "one")
	}
	complete, _ := impl.DiskCrash(e, 0, []int{len(two)})
	wantNewest(t, "all is kept", complete, 2, 6, "two")
}

func TestNewestOfInvalidDisks(t *testing.T) {
	start := diskWith(t, snapEntry(1, 4, "one"), snapEntry(2, 6, "two"))
	for i, change := range []func(d *impl.Disk){
		func(d *impl.Disk) { d.Room = -1 },
		func(d *impl.Disk) { d.Room = 5 },
		func(d *impl.Disk) { d.Room = impl.MaxDisk + 1 },
		func(d *impl.Disk) { d.Fuse = -2 },
		func(d *impl.Disk) { d.Fuse = math.MaxInt },
		func(d *impl.Disk) { d.Next = 2 },
		func(d *impl.Disk) { d.Files[0].Safe = -1 },
		func(d *impl.Disk) { d.Files[1].Safe++ },
		func(d *impl.Disk) { d.Files[1].Id = 1 },
		func(d *impl.Disk) { d.Files = d.Files[:1] },
		func(d *impl.Disk) { d.Kept = d.Kept[:1] },
		func(d *impl.Disk) { d.Kept[0], d.Kept[1] = d.Kept[1], d.Kept[0] },
		func(d *impl.Disk) { d.Kept[0].Id = 5 },
		func(d *impl.Disk) { d.Turns = append(d.Turns, impl.Turn{Kind: impl.DiRemove, Name: "x"}) },
		func(d *impl.Disk) { d.Turns = append(d.Turns, impl.Turn{Kind: 9}) },
	} {
		d := deepDisk(start)
		change(&d)
		if impl.DiskOk(d) {
			t.Fatalf("change %d leaves the disk valid", i)
		}
		if gen, seq, data := impl.Newest(d); gen != 0 || seq != 0 || data != nil {
			t.Errorf("change %d: Newest = %d, %d, %q; want zero values", i, gen, seq, data)
		}
	}
	for i, d := range invalidDisks() {
		wantNewest(t, fmt.Sprint("invalid disk ", i), d, 0, 0, "")
	}
}

// modelNewest looks for the name of every generation that a random disk can have.
func modelNewest(d impl.Disk) (int, int, string) {
	for gen := 12; gen > 0; gen-- {
		body, ok := impl.DiskRead(d, fmt.Sprintf("snap.%d", gen))
		found, seq, data, code := modelSnapRead(string(body))
		if ok && code == 0 && found == gen {
			return gen, seq, data
		}
	}
	return 0, 0, ""
}

func TestNewestOfRandomDisks(t *testing.T) {
	r := rand.New(rand.NewSource(5))
	names := []string{"temp", "snap.1", "snap.2", "snap.9", "snap.10", "snap.12", "log.2", "log.12", "snap.0", "snap.02"}
	found := map[int]int{}
	for range 1500 {
		d, _ := impl.DiskNew(500)
		for range 40 {
			name := names[r.Intn(len(names))]
			gen, ok := impl.GenOf(name)
			if !ok || r.Intn(5) == 0 {
				gen = 1 + r.Intn(12)
			}
			ops := []impl.DiskOp{
				opCreate(name), opAppend(name, randomSnap(r, gen)), opSync(name), opRename(name, names[r.Intn(len(names))]), opRemove(name), opSyncDir(),
			}
			d, _ = impl.DiskDo(d, ops[[]int{0, 0, 0, 1, 1, 1, 1, 2, 3, 4, 5}[r.Intn(11)]])
			if r.Intn(30) == 0 {
				d, _ = impl.DiskCrash(d, r.Intn(4), []int{0, 100})
			}
			gen, seq, data := modelNewest(d)
			wantNewest(t, "random", d, gen, seq, data)
			found[gen]++
		}
	}
	for _, gen := range []int{0, 1, 2, 9, 10, 12} {
		if found[gen] < 100 {
			t.Errorf("the generation %d was the newest only %d times", gen, found[gen])
		}
	}
}

func TestSnapshotsShareNothing(t *testing.T) {
	data, allData := withSpare("some data")
	snap, allSnap := withSpare(modelSnap(4, 8, "some data"))
	dataBefore, snapBefore := bytes.Clone(allData), bytes.Clone(allSnap)
	written, _ := impl.SnapBytes(4, 8, data)
	_, _, read, _ := impl.SnapRead(snap)
	overwrite(written)
	overwrite(read)
	if !bytes.Equal(allData, dataBefore) || !bytes.Equal(allSnap, snapBefore) {
		t.Errorf("an argument is changed, or shares memory with a result: %q, %q", allData, allSnap)
	}
	written, _ = impl.SnapBytes(4, 8, data)
	_, _, read, _ = impl.SnapRead(snap)
	overwrite(allData)
	overwrite(allSnap)
	if string(written) != modelSnap(4, 8, "some data") || string(read) != "some data" {
		t.Errorf("a result changes with an argument: %q, %q", written, read)
	}
	empty, allEmpty := withSpare(modelSnap(4, 8, ""))
	emptyBefore := bytes.Clone(allEmpty)
	_, _, read, _ = impl.SnapRead(empty)
	overwrite(append(read, 1, 2, 3))
	if !bytes.Equal(allEmpty, emptyBefore) {
		t.Error("no data shares memory with the argument")
	}
}

func TestNewestSharesNothing(t *testing.T) {
	for _, text := range []string{"some data", ""} {
		d := diskWith(t, snapEntry(9, 5, "nine"), snapEntry(10, 8, text), entry{"snap.11", "SNAP"}, entry{"log.10", "log"})
		d = spareDisk(mustDo(t, d, opRename("log.10", "log.9"), opCreate("log.10")))
		before := wholeDisk(d)
		_, _, data := impl.Newest(d)
		wantDisk(t, "after Newest", wholeDisk(d), before)
		overwrite(append(data, 1))
		overwrite(data)
		wantDisk(t, "after the data was overwritten", wholeDisk(d), before)
		_, _, data = impl.Newest(d)
		scribble(d)
		if string(data) != text {
			t.Errorf("the data changes with the disk: %q", data)
		}
	}
}
