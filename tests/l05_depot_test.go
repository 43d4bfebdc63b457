package tests

import (
	"bytes"
	"fmt"
	"math"
	"math/rand"
	"slices"
	"strings"
	"testing"

	"loop.example/g00661/impl"
)

func sameDepot(a, b impl.Depot) bool {
	return sameDisk(a.Disk, b.Disk) && a.Gen == b.Gen && a.Seq == b.Seq && a.Size == b.Size && a.Stuck == b.Stuck
}

func wantDepot(t *testing.T, what string, got impl.Depot, code int, want impl.Depot, wantCode int) {
	t.Helper()
	if code != wantCode || !sameDepot(got, want) {
		t.Errorf("%s: code %d and %s; want %d and %s", what, code, depotText(got), wantCode, depotText(want))
	}
}

// depotText is short also for a disk with much data.
func depotText(p impl.Depot) string {
	s := fmt.Sprintf("Gen %d Seq %d Size %d Stuck %v Room %d Fuse %d Next %d", p.Gen, p.Seq, p.Size, p.Stuck, p.Disk.Room, p.Disk.Fuse, p.Disk.Next)
	for _, f := range p.Disk.Files {
		s += fmt.Sprintf(" [%d: %d bytes, %d safe, crc %d]", f.Id, len(f.Body), f.Safe, impl.Crc(f.Body))
	}
	return s + fmt.Sprint(" ", p.Disk.Kept, p.Disk.Turns)
}

func wantFound(t *testing.T, what string, d impl.Disk, gen int, seq int, data string, texts ...string) {
	t.Helper()
	gotGen, gotSeq, gotData, l, code := impl.Find(d)
	if code != 0 || gotGen != gen || gotSeq != seq || string(gotData) != data || !slices.Equal(textsOf(l), texts) {
		t.Errorf("%s: Find = %d, %d, %.40q, %.40q, %d; want %d, %d, %.40q, %.40q, 0", what, gotGen, gotSeq, gotData, textsOf(l), code, gen, seq, data, texts)
	}
}

// wantNames checks the names of the directory, in their order.
func wantNames(t *testing.T, what string, d impl.Disk, names ...string) {
	t.Helper()
	var got []string
	for _, link := range impl.DiskDir(d) {
		got = append(got, link.Name)
	}
	if !slices.Equal(got, names) {
		t.Errorf("%s: the directory has %q; want %q", what, got, names)
	}
}

// setDisk returns the depot with this room and fuse.
func setDisk(t *testing.T, p impl.Depot, room int, fuse int) impl.Depot {
	t.Helper()
	p.Disk = setRoom(t, p.Disk, room, fuse)
	return p
}

func setRoom(t *testing.T, d impl.Disk, room int, fuse int) impl.Disk {
	t.Helper()
	set, ok := impl.DiskSet(d, room, fuse)
	if !ok {
		t.Fatalf("the disk cannot have the room %d and the fuse %d", room, fuse)
	}
	return set
}

func used(d impl.Disk) int {
	n := 0
	for _, f := range d.Files {
		n += len(f.Body)
	}
	return n
}

// depotWith returns a depot of the generation gen, all of which is durable, beside the other files.
func depotWith(t *testing.T, gen int, seq int, texts []string, others ...entry) impl.Depot {
	t.Helper()
	journal := modelJournal(seq, texts...)
	entries := append([]entry{snapEntry(gen, seq, "old"), {fmt.Sprintf("log.%d", gen), journal}}, others...)
	p := impl.Depot{Disk: diskWith(t, entries...), Gen: gen, Seq: seq + len(texts), Size: len(journal)}
	if !impl.DepotOk(p) {
		t.Fatal("the depot to start with is not valid")
	}
	return p
}

func sampleDepot(t *testing.T) impl.Depot {
	t.Helper()
	return depotWith(t, 3, 5, []string{"five", "six"}, entry{"notes", "foreign"})
}

func mustPut(t *testing.T, p impl.Depot, texts ...string) impl.Depot {
	t.Helper()
	for _, s := range texts {
		next, code := impl.Put(p, []byte(s))
		if code != 0 {
			t.Fatalf("Put of %d bytes has the code %d", len(s), code)
		}
		p = next
	}
	return p
}

// foreign are n empty files that belong to no generation.
func foreign(n int) []entry {
	var l []entry
	for i := range n {
		l = append(l, entry{fmt.Sprintf("x%d", i), ""})
	}
	return l
}

func TestDepotOk(t *testing.T) {
	start := sampleDepot(t)
	cases := []struct {
		what   string
		change func(p *impl.Depot)
		want   bool
	}{
		{"no change", func(p *impl.Depot) {}, true},
		{"gen -1", func(p *impl.Depot) { p.Gen = -1 }, false},
		{"gen 0", func(p *impl.Depot) { p.Gen = 0 }, false},
		{"gen 0 without power", func(p *impl.Depot) { p.Gen, p.Disk.Fuse = 0, 0 }, false},
		{"gen 0 and stuck", func(p *impl.Depot) { p.Gen, p.Stuck = 0, true }, false},
		{"gen 1 and stuck", func(p *impl.Depot) { p.Gen, p.Stuck = 1, true }, true},
		{"another gen", func(p *impl.Depot) { p.Gen = 2 }, false},
		{"gen MaxGen and stuck", func(p *impl.Depot) { p.Gen, p.Stuck = impl.MaxGen, true }, true},
		{"gen above MaxGen and stuck", func(p *impl.Depot) { p.Gen, p.Stuck = impl.MaxGen+1, true }, false},
		{"gen MaxInt without power", func(p *impl.Depot) { p.Gen, p.Disk.Fuse = math.MaxInt, 0 }, false},
		{"seq -1", func(p *impl.Depot) { p.Seq = -1 }, false},
		{"seq 0", func(p *impl.Depot) { p.Seq = 0 }, false},
		{"seq 0 and stuck", func(p *impl.Depot) { p.Seq, p.Stuck = 0, true }, false},
		{"seq 1", func(p *impl.Depot) { p.Seq = 1 }, true},
		{"seq MaxSeq", func(p *impl.Depot) { p.Seq = impl.MaxSeq }, true},
		{"seq above MaxSeq", func(p *impl.Depot) { p.Seq = impl.MaxSeq + 1 }, true},
		{"seq two above MaxSeq", func(p *impl.Depot) { p.Seq = impl.MaxSeq + 2 }, false},
		{"seq MinInt without power", func(p *impl.Depot) { p.Seq, p.Disk.Fuse = math.MinInt, 0 }, false},
		{"size one more", func(p *impl.Depot) { p.Size++ }, false},
		{"size one less", func(p *impl.Depot) { p.Size-- }, false},
		{"size 0", func(p *impl.Depot) { p.Size = 0 }, false},
		{"size -1", func(p *impl.Depot) { p.Size = -1 }, false},
		{"size -1 and stuck", func(p *impl.Depot) { p.Size, p.Stuck = -1, true }, false},
		{"size -1 without power", func(p *impl.Depot) { p.Size, p.Disk.Fuse = -1, 0 }, false},
		{"size MinInt and stuck", func(p *impl.Depot) { p.Size, p.Stuck = math.MinInt, true }, false},
		{"size 0 and stuck", func(p *impl.Depot) { p.Size, p.Stuck = 0, true }, true},
		{"size MaxInt and stuck", func(p *impl.Depot) { p.Size, p.Stuck = math.MaxInt, true }, true},
		{"size MaxInt without power", func(p *impl.Depot) { p.Size, p.Disk.Fuse = math.MaxInt, 0 }, true},
		{"another size and fuse 1", func(p *impl.Depot) { p.Size, p.Disk.Fuse = 0, 1 }, false},
		{"fuse 1", func(p *impl.Depot) { p.Disk.Fuse = 1 }, true},
		{"stuck", func(p *impl.Depot) { p.Stuck = true }, true},
		{"no journal", func(p *impl.Depot) { p.Disk = mustDo(t, p.Disk, opRemove("log.3")) }, false},
		{"no journal and size 0", func(p *impl.Depot) { p.Disk, p.Size = mustDo(t, p.Disk, opRemove("log.3"), opSyncDir()), 0 }, false},
		{"no journal and stuck", func(p *impl.Depot) { p.Disk, p.Stuck = mustDo(t, p.Disk, opRemove("log.3")), true }, true},
		{"no journal and fuse 1", func(p *impl.Depot) { p.Disk = mustDo(t, p.Disk, opRemove("log.3")); p.Disk.Fuse = 1 }, false},
		{"no journal and no power", func(p *impl.Depot) { p.Disk = mustDo(t, p.Disk, opRemove("log.3")); p.Disk.Fuse = 0 }, true},
		{"journal under another name", func(p *impl.Depot) { p.Disk = mustDo(t, p.Disk, opRename("log.3", "log.4")) }, false},
		{"journal not yet durable", func(p *impl.Depot) { p.Disk = mustDo(t, p.Disk, opRename("log.3", "x"), opRename("x", "log.3")) }, true},
		{"journal of other bytes", func(p *impl.Depot) {
			p.Disk, p.Size = mustDo(t, p.Disk, opRemove("log.3"), opCreate("log.3"), opAppend("log.3", "any")), 3
		}, true},
		{"no snapshot", func(p *impl.Depot) { p.Disk = mustDo(t, p.Disk, opRemove("snap.3")) }, true},
		{"no file at all, stuck", func(p *impl.Depot) { p.Disk, p.Stuck = impl.Disk{Fuse: -1, Next: 1}, true }, true},
		{"room too small", func(p *impl.Depot) { p.Disk.Room = 3 }, false},
		{"room too small and stuck", func(p *impl.Depot) { p.Disk.Room, p.Stuck = 3, true }, false},
		{"fuse -2", func(p *impl.Depot) { p.Disk.Fuse = -2 }, false},
		{"a link of no file, no power", func(p *impl.Depot) { p.Disk.Kept[0].Id, p.Disk.Fuse = 9, 0 }, false},
	}
	for _, c := range cases {
		p := start
		p.Disk = deepDisk(p.Disk)
		c.change(&p)
		if impl.DepotOk(p) != c.want {
			t.Errorf("%s: DepotOk = %v", c.what, !c.want)
		}
	}
	if impl.DepotOk(impl.Depot{}) {
		t.Error("the zero value is valid")
	}
	for i, d := range invalidDisks() {
		if impl.DepotOk(impl.Depot{Disk: d, Gen: 1, Seq: 1, Stuck: true}) {
			t.Errorf("a depot with the invalid disk %d is valid", i)
		}
	}
}

func TestFindWithoutAGeneration(t *testing.T) {
	disks := map[string]impl.Disk{
		"no files":                 diskWith(t),
		"a journal":                diskWith(t, entry{"log.1", modelJournal(1, "a")}),
		"other files":              diskWith(t, entry{"temp", modelSnap(1, 1, "data")}, entry{"notes", "x"}, entry{"log.2", ""}),
		"a damaged snapshot":       diskWith(t, entry{"snap.1", modelSnap(1, 1, "data") + "x"}, entry{"log.1", modelJournal(1, "a")}),
		"another generation":       diskWith(t, entry{"snap.1", modelSnap(2, 1, "data")}, entry{"log.1", modelJournal(1, "a")}, entry{"log.2", modelJournal(1, "b")}),
		"a snapshot that is empty": diskWith(t, entry{"snap.4", ""}),
	}
	for what, d := range disks {
		wantFound(t, what, d, 0, 1, "")
		d.Fuse = 0
		wantFound(t, what+" and no power", d, 0, 1, "")
	}
	gen, seq, data, l, code := impl.Find(disks["a journal"])
	if gen != 0 || seq != 1 || data != nil || l != nil || code != 0 {
		t.Errorf("Find without a generation = %d, %d, %v, %v, %d", gen, seq, data, l, code)
	}
}

func TestFindOfInvalidDisks(t *testing.T) {
	small := sampleDepot(t).Disk
	small.Room = 1
	for i, d := range append(invalidDisks(), small) {
		gen, seq, data, l, code := impl.Find(d)
		if gen != 0 || seq != 0 || data != nil || l != nil || code != 1 {
			t.Errorf("disk %d: Find = %d, %d, %v, %v, %d; want zero values and the code 1", i, gen, seq, data, l, code)
		}
	}
}

func TestFind(t *testing.T) {
	wantFound(t, "no journal", diskWith(t, snapEntry(2, 7, "data")), 2, 7, "data")
	wantFound(t, "an empty journal", diskWith(t, snapEntry(2, 7, "data"), entry{"log.2", ""}), 2, 7, "data")
	wantFound(t, "entries", sampleDepot(t).Disk, 3, 5, "old", "five", "six")
	wantFound(t, "no power", setDisk(t, sampleDepot(t), 1000, 0).Disk, 3, 5, "old", "five", "six")
	wantFound(t, "a journal of the generation before", diskWith(t, snapEntry(2, 7, "data"), entry{"log.1", modelJournal(7, "x")}), 2, 7, "data")
	wantFound(t, "a journal of the generation behind", diskWith(t, snapEntry(2, 7, "data"), entry{"log.3", modelJournal(7, "x")}), 2, 7, "data")
	for _, seq := range []int{1, 6, 8, impl.MaxSeq} {
		wantFound(t, "a journal that begins otherwise", diskWith(t, snapEntry(2, 7, ""), entry{"log.2", modelJournal(seq, "x", "y")}), 2, 7, "")
	}
	gap := modelJournal(7, "x", "y") + modelJournal(10, "z")
	wantFound(t, "a gap", diskWith(t, snapEntry(2, 7, "data"), entry{"log.2", gap}), 2, 7, "data", "x", "y")
	wantFound(t, "the last number", diskWith(t, snapEntry(2, impl.MaxSeq, "data"), entry{"log.2", modelJournal(impl.MaxSeq, "x", "y")}), 2, impl.MaxSeq, "data", "x")
	two := []entry{snapEntry(9, 7, "nine"), {"log.9", modelJournal(7, "a", "b")}, snapEntry(10, 9, "ten"), {"log.10", modelJournal(9, "c")}}
	wantFound(t, "two generations", diskWith(t, two...), 10, 9, "ten", "c")
	two[2].body += "x"
	wantFound(t, "the newest is damaged", diskWith(t, two...), 9, 7, "nine", "a", "b")
	long := []string{mixedBytes(impl.MaxLoad), "", mixedBytes(300)}
	wantFound(t, "much data", diskWith(t, snapEntry(impl.MaxGen, 1, mixedBytes(impl.MaxSnap)), entry{fmt.Sprint("log.", impl.MaxGen), modelJournal(1, long...)}),
		impl.MaxGen, 1, mixedBytes(impl.MaxSnap), long...)
}

func TestFindOfTornJournals(t *testing.T) {
	texts := []string{"a", "", "some data", mixedBytes(200)}
	journal := modelJournal(7, texts...)
	for end := range len(journal) + 1 {
		n := 0
		for n < len(texts) && len(modelJournal(7, texts[:n+1]...)) <= end {
			n++
		}
		d := diskWith(t, snapEntry(2, 7, "data"), entry{"log.2", journal[:end]})
		wantFound(t, fmt.Sprint("torn at ", end), d, 2, 7, "data", texts[:n]...)
	}
	for i := range journal {
		changed := []byte(journal)
		changed[i] ^= 4
		_, _, _, l, _ := impl.Find(diskWith(t, snapEntry(2, 7, ""), entry{"log.2", string(changed)}))
		n := len(l)
		if n > 3 || !slices.Equal(textsOf(l), texts[:n]) || len(modelJournal(7, texts[:n]...)) > i {
			t.Errorf("with a change at %d, %q is found", i, textsOf(l))
		}
	}
}

func TestBeginOnAnEmptyDisk(t *testing.T) {
	for _, data := range []string{"", "first", mixedBytes(impl.MaxSnap)} {
		d, _ := impl.DiskNew(impl.MaxDisk)
		p, code := impl.Begin(setRoom(t, d, impl.MaxDisk, impl.MaxFuse), 0, 7, []byte(data))
		snap := modelSnap(1, 7, data)
		want := impl.Depot{Gen: 1, Seq: 7, Disk: impl.Disk{
			Room: impl.MaxDisk,
			Fuse: impl.MaxFuse - 9,
			Next: 3,
			Files: []impl.File{
				{Id: 1, Body: []byte(snap), Safe: len(snap)},
				{Id: 2},
			},
			Kept: []impl.Link{{Name: "log.1", Id: 2}, {Name: "snap.1", Id: 1}},
		}}
		wantDepot(t, "Begin", p, code, want, 0)
		if !impl.DepotOk(p) {
			t.Error("the depot that Begin returns is not valid")
		}
		wantFound(t, "after Begin", p.Disk, 1, 7, data)
	}
}

func TestGenerationsThatBegin(t *testing.T) {
	d, _ := impl.DiskNew(1000)
	for _, gen := range []int{0, 1, 2, 8, 9, 98, 99, impl.MaxGen - 2, impl.MaxGen - 1} {
		for _, seq := range []int{1, 2, 127, 128, impl.MaxSeq - 1, impl.MaxSeq} {
			p, code := impl.Begin(d, gen, seq, []byte("data"))
			if code != 0 || p.Gen != gen+1 || p.Seq != seq || p.Size != 0 || p.Stuck || !impl.DepotOk(p) {
				t.Errorf("Begin of %d with %d: code %d, %s", gen, seq, code, depotText(p))
			}
			wantFound(t, fmt.Sprint("after Begin of ", gen), p.Disk, gen+1, seq, "data")
			wantNames(t, fmt.Sprint("after Begin of ", gen), p.Disk, fmt.Sprint("log.", gen+1), fmt.Sprint("snap.", gen+1))
		}
	}
}

func TestBeginRejects(t *testing.T) {
	d := sampleDepot(t).Disk
	reject := func(what string, d impl.Disk, gen int, seq int, size int) {
		t.Helper()
		p, code := impl.Begin(d, gen, seq, make([]byte, size))
		wantDepot(t, what, p, code, impl.Depot{}, 1)
	}
	dark := setRoom(t, d, 1000, 0)
	full := setRoom(t, d, used(d), -1)
	for _, disk := range []impl.Disk{d, dark, full, keptFiles(impl.MaxFiles)} {
		for _, gen := range append(notGens(), impl.MaxGen) {
			if gen == 0 {
				continue
			}
			reject(fmt.Sprint("the generation ", gen), disk, gen, 1, 0)
		}
		for _, seq := range notSeqs() {
			reject(fmt.Sprint("the number ", seq), disk, 0, seq, 0)
			reject(fmt.Sprint("the number ", seq), disk, impl.MaxGen-1, seq, 0)
		}
		reject("too much data", disk, 0, 1, impl.MaxSnap+1)
		reject("too much data", disk, 3, 7, impl.MaxDisk)
	}
	for i, invalid := range invalidDisks() {
		reject(fmt.Sprint("the invalid disk ", i), invalid, 0, 1, 1)
		reject(fmt.Sprint("the invalid disk ", i), invalid, -1, 0, impl.MaxSnap+1)
	}
}

// play executes operations and returns the code of the last one. An append that does not fit may be among them.
func play(t *testing.T, d impl.Disk, ops []impl.DiskOp) (impl.Disk, int) {
	t.Helper()
	last := 0
	for _, op := range ops {
		if last != 0 && last != 5 {
			t.Fatalf("an operation before %d %q has the code %d", op.Kind, op.Name, last)
		}
		d, last = impl.DiskDo(d, op)
	}
	return d, last
}

// checkOps checks that call executes exactly these operations, by ending the power after each of them.
// Without power it returns p with the disk at this point; after the last operation, it returns want with this disk, and the code.
func checkOps(t *testing.T, what string, p impl.Depot, ops []impl.DiskOp, call func(p impl.Depot) (impl.Depot, int), want impl.Depot, code int) {
	t.Helper()
	for n := range ops {
		dark := setDisk(t, p, p.Disk.Room, n)
		got, gotCode := call(dark)
		dark.Disk, _ = play(t, dark.Disk, ops[:n])
		wantDepot(t, fmt.Sprintf("%s with power for %d operations", what, n), got, gotCode, dark, 2)
	}
	for _, fuse := range []int{-1, len(ops), len(ops) + 1, impl.MaxFuse} {
		lit := setDisk(t, p, p.Disk.Room, fuse)
		got, gotCode := call(lit)
		want.Disk, _ = play(t, lit.Disk, ops)
		wantDepot(t, fmt.Sprintf("%s with the fuse %d", what, fuse), got, gotCode, want, code)
	}
}

// newOps are the operations from the creation of TempFile to the durable names of the generation gen.
func newOps(gen int, seq int, data string) []impl.DiskOp {
	snap, log := fmt.Sprint("snap.", gen), fmt.Sprint("log.", gen)
	return []impl.DiskOp{
		opCreate("temp"), opAppend("temp", modelSnap(gen, seq, data)), opSync("temp"), opRename("temp", snap), opCreate(log), opSyncDir(),
	}
}

func checkBegin(t *testing.T, what string, d impl.Disk, gen int, seq int, data string, ops []impl.DiskOp, code int) {
	t.Helper()
	p, want := impl.Depot{Disk: d, Gen: gen, Seq: seq}, impl.Depot{Gen: gen, Seq: seq}
	if code == 0 {
		want.Gen = gen + 1
	}
	checkOps(t, what, p, ops, func(p impl.Depot) (impl.Depot, int) { return impl.Begin(p.Disk, gen, seq, []byte(data)) }, want, code)
}

func opList(parts ...[]impl.DiskOp) []impl.DiskOp { return slices.Concat(parts...) }

func removals(names ...string) []impl.DiskOp {
	var ops []impl.DiskOp
	for _, name := range names {
		ops = append(ops, opRemove(name))
	}
	return ops
}

func TestOperationsOfBegin(t *testing.T) {
	syncDir := []impl.DiskOp{opSyncDir()}
	clean := opList(syncDir, syncDir)
	checkBegin(t, "an empty disk", diskWith(t), 0, 1, "data", opList(clean, newOps(1, 1, "data"), syncDir), 0)
	checkBegin(t, "the next generation", sampleDepot(t).Disk, 3, 7, "new",
		opList(clean, newOps(4, 7, "new"), removals("log.3", "snap.3"), syncDir), 0)
	checkBegin(t, "a temporary file", diskWith(t, entry{"temp", "old"}), 5, 7, "new",
		opList(syncDir, removals("temp"), syncDir, newOps(6, 7, "new"), syncDir), 0)
	checkBegin(t, "a journal", diskWith(t, entry{"log.6", modelJournal(7, "stale")}), 5, 7, "new",
		opList(syncDir, removals("log.6"), syncDir, newOps(6, 7, "new"), syncDir), 0)
	checkBegin(t, "both", diskWith(t, entry{"log.6", modelJournal(7, "stale")}, entry{"temp", modelSnap(6, 7, "old")}, entry{"log.5", ""}), 5, 7, "new",
		opList(syncDir, removals("temp", "log.6"), syncDir, newOps(6, 7, "new"), removals("log.5"), syncDir), 0)
	checkBegin(t, "a snapshot of this generation", diskWith(t, snapEntry(6, 2, "stale"), snapEntry(5, 1, "old")), 5, 7, "new",
		opList(clean, newOps(6, 7, "new"), removals("snap.5"), syncDir), 0)
	checkBegin(t, "later generations", diskWith(t, snapEntry(9, 2, "nine"), entry{"log.10", ""}, entry{"log.9", "x"}, snapEntry(2, 1, "two")), 0, 1, "",
		opList(clean, newOps(1, 1, ""), removals("log.10", "log.9", "snap.2", "snap.9"), syncDir), 0)
}

func TestBeginOnADiskThatIsNotDurable(t *testing.T) {
	stale := modelJournal(7, "stale")
	d := mustDo(t, diskWith(t, snapEntry(5, 2, "old"), entry{"a", "a"}), opCreate("temp"), opAppend("temp", "part"), opCreate("log.6"), opAppend("log.6", stale),
		opRename("a", "b"), opCreate("log.5"))
	syncDir := []impl.DiskOp{opSyncDir()}
	ops := opList(syncDir, removals("temp", "log.6"), syncDir, newOps(6, 7, "new"), removals("log.5", "snap.5"), syncDir)
	checkBegin(t, "changes that are not durable", d, 5, 7, "new", ops, 0)
	gone := mustDo(t, diskWith(t, entry{"temp", "old"}, entry{"log.6", stale}, snapEntry(5, 2, "old")), opRemove("temp"), opRename("log.6", "x"))
	ops = opList(syncDir, syncDir, newOps(6, 7, "new"), removals("snap.5"), syncDir)
	checkBegin(t, "files that were there", gone, 5, 7, "new", ops, 0)
	// Even if every change from before is durable at last, the stale journal is not read behind the new snapshot.
	for fuse := range 20 {
		p, _ := impl.Begin(setRoom(t, d, 1000, fuse), 5, 7, []byte("new"))
		for turns := range len(p.Disk.Turns) + 1 {
			crashed, _ := impl.DiskCrash(p.Disk, turns, []int{1000})
			if gen, _, _, l, _ := impl.Find(crashed); gen != 5 && gen != 6 || len(l) != 0 {
				t.Errorf("after %d operations and a crash, the generation %d with %q is found", fuse, gen, textsOf(l))
			}
		}
	}
}

func TestBeginKeepsOnlyOneGeneration(t *testing.T) {
	others := []entry{
		snapEntry(2, 4, "two"), {"log.2", modelJournal(4, "x")}, {"snap.10", "damaged"}, {"log.10", ""}, snapEntry(1000000000, 1, "last"),
		{"snap.02", "a"}, {"log.0", "b"}, {"notes", "c"},
	}
	r := rand.New(rand.NewSource(6))
	for range 20 {
		r.Shuffle(len(others), func(i, k int) { others[i], others[k] = others[k], others[i] })
		d := diskWith(t, others...)
		for _, gen := range []int{0, 1, 2, 8, 9, 10, 40} {
			p, code := impl.Begin(d, gen, 8, []byte("new"))
			names := []string{"log.0", fmt.Sprint("log.", gen+1), "notes", "snap.02", fmt.Sprint("snap.", gen+1)}
			slices.Sort(names)
			wantNames(t, fmt.Sprint("after Begin of ", gen), p.Disk, names...)
			wantFound(t, fmt.Sprint("after Begin of ", gen), p.Disk, gen+1, 8, "new")
			for _, e := range others[:8] {
				if body, ok := impl.DiskRead(p.Disk, e.name); ok && len(e.body) == 1 && string(body) != e.body {
					t.Errorf("the file %q has the bytes %q", e.name, body)
				}
			}
			if code != 0 || p.Size != 0 || len(p.Disk.Turns) != 0 || len(p.Disk.Files) != 5 {
				t.Errorf("Begin of %d: code %d, %s", gen, code, depotText(p))
			}
		}
	}
}

func TestBeginOnADiskThatIsTooSmall(t *testing.T) {
	syncDir := []impl.DiskOp{opSyncDir()}
	drop := append(removals("temp"), opSyncDir())
	snap := modelSnap(4, 7, "some new data")
	for _, stale := range []string{"", "stale"} {
		// What is removed first leaves its room to the snapshot.
		d := diskWith(t, snapEntry(3, 5, "old"), entry{"log.3", modelJournal(5, "five", "six")}, entry{"temp", stale}, entry{"log.4", stale})
		need := used(d) - 2*len(stale) + len(snap)
		for room := used(d); room < need; room++ {
			ops := opList(syncDir, removals("temp", "log.4"), syncDir, newOps(4, 7, "some new data")[:2], drop)
			checkBegin(t, fmt.Sprint("room for ", room), setRoom(t, d, room, -1), 3, 7, "some new data", ops, 5)
		}
		p, code := impl.Begin(setRoom(t, d, need-1, -1), 3, 7, []byte("some new data"))
		if code != 5 || used(p.Disk) != need-len(snap) || len(p.Disk.Turns) != 0 {
			t.Errorf("a byte is missing: code %d, %s", code, depotText(p))
		}
		wantNames(t, "a byte is missing", p.Disk, "log.3", "snap.3")
		wantFound(t, "a byte is missing", p.Disk, 3, 5, "old", "five", "six")
		ops := opList(syncDir, removals("temp", "log.4"), syncDir, newOps(4, 7, "some new data"), removals("log.3", "snap.3"), syncDir)
		checkBegin(t, "room enough", setRoom(t, d, need, -1), 3, 7, "some new data", ops, 0)
	}
	none, _ := impl.DiskNew(0)
	checkBegin(t, "no room at all", none, 0, 1, "", opList(syncDir, syncDir, newOps(1, 1, "")[:2], drop), 5)
}

// checkRefused checks that call returns want with the disk on which the operations were executed, and the code 4, because the last of them has this code.
func checkRefused(t *testing.T, what string, d impl.Disk, ops []impl.DiskOp, call func(d impl.Disk) (impl.Depot, int), want impl.Depot) {
	t.Helper()
	last := len(ops) - 1
	if _, code := play(t, d, ops); code != 4 {
		t.Fatalf("%s: the last operation has the code %d", what, code)
	}
	for _, n := range []int{-1, len(ops), impl.MaxFuse} {
		lit := setRoom(t, d, d.Room, n)
		got, code := call(lit)
		want.Disk, _ = play(t, lit, ops)
		wantDepot(t, fmt.Sprintf("%s with the fuse %d", what, n), got, code, want, 4)
	}
	// Without power, the last operation has the code 2 too.
	for n := range last + 1 {
		dark := setRoom(t, d, d.Room, n)
		got, code := call(dark)
		want.Disk, _ = play(t, dark, ops[:n])
		wantDepot(t, fmt.Sprintf("%s with power for %d operations", what, n), got, code, want, 2)
	}
}

func TestDisksThatRefuseFiles(t *testing.T) {
	syncDir := []impl.DiskOp{opSyncDir()}
	clean := opList(syncDir, syncDir)
	made := newOps(1, 1, "data")
	begin := func(d impl.Disk) (impl.Depot, int) { return impl.Begin(d, 0, 1, []byte("data")) }
	want := impl.Depot{Seq: 1}
	refused := func(what string, d impl.Disk, parts ...[]impl.DiskOp) {
		t.Helper()
		checkRefused(t, what, d, opList(parts...), begin, want)
	}
	refused("ten files", diskWith(t, foreign(10)...), clean, made[:1])
	refused("nine files", diskWith(t, foreign(9)...), clean, made[:5])
	checkBegin(t, "eight files", diskWith(t, foreign(8)...), 0, 1, "data", opList(clean, made, syncDir), 0)
	refused("ten files of a generation", diskWith(t, append(foreign(8), snapEntry(7, 1, ""), entry{"log.7", ""})...), clean, made[:1])
	refused("nine and a temporary file", diskWith(t, append(foreign(9), entry{"temp", "x"})...), syncDir, removals("temp"), syncDir, made[:5])
	refused("nine and a journal", diskWith(t, append(foreign(9), entry{"log.1", "x"})...), syncDir, removals("log.1"), syncDir, made[:5])
	checkBegin(t, "eight and both", diskWith(t, append(foreign(8), entry{"log.1", "x"}, entry{"temp", "x"})...), 0, 1, "data",
		opList(syncDir, removals("temp", "log.1"), syncDir, made, syncDir), 0)
	// A file without a link counts until the first DiSyncDir.
	removed := mustDo(t, diskWith(t, foreign(10)...), opRemove("x0"), opRename("x1", "x2"))
	checkBegin(t, "eight files and two without a link", removed, 0, 1, "data", opList(clean, made, syncDir), 0)

	next := diskWith(t)
	next.Next = impl.MaxId
	refused("no number left", next, clean, made[:1])
	next.Next = impl.MaxId - 1
	refused("one number left", next, clean, made[:5])
	next.Next = impl.MaxId - 2
	checkBegin(t, "two numbers left", next, 0, 1, "data", opList(clean, made, syncDir), 0)

	full := setRoom(t, fullTurns(impl.MaxTurns), 1000, -1)
	checkBegin(t, "a disk that is full of turns", full, 0, 1, "data", opList(clean, made, syncDir), 0)
	// The append comes before the second file.
	small := setRoom(t, diskWith(t, foreign(9)...), 5, -1)
	checkBegin(t, "nine files and no room", small, 0, 1, "data", opList(clean, made[:2], removals("temp"), syncDir), 5)
}

func TestPut(t *testing.T) {
	p := sampleDepot(t)
	journal, _ := impl.DiskRead(p.Disk, "log.3")
	for i, s := range []string{"a", "", "some data", mixedBytes(127), mixedBytes(128), mixedBytes(impl.MaxLoad - 1), mixedBytes(impl.MaxLoad)} {
		frame := modelFrame(7+i, s)
		want := impl.Depot{Gen: 3, Seq: p.Seq + 1, Size: p.Size + len(frame)}
		checkOps(t, fmt.Sprintf("Put of %d bytes", len(s)), p, []impl.DiskOp{opAppend("log.3", frame)},
			func(p impl.Depot) (impl.Depot, int) { return impl.Put(p, []byte(s)) }, want, 0)
		p = mustPut(t, p, s)
		journal = append(journal, frame...)
		if body, _ := impl.DiskRead(p.Disk, "log.3"); !bytes.Equal(body, journal) || !impl.DepotOk(p) {
			t.Errorf("after Put of %d bytes: %s", len(s), depotText(p))
		}
	}
	_, _, _, l, _ := impl.Find(p.Disk)
	if len(l) != 9 || string(l[0].Data) != "five" || string(l[2].Data) != "a" || len(l[8].Data) != impl.MaxLoad {
		t.Errorf("%d entries are found", len(l))
	}
}

func TestPutOfTheLastNumbers(t *testing.T) {
	p := depotWith(t, impl.MaxGen, impl.MaxSeq-1, nil)
	p = mustPut(t, p, "last but one", "last")
	wantFound(t, "the last numbers", p.Disk, impl.MaxGen, impl.MaxSeq-1, "old", "last but one", "last")
	if p.Seq != impl.MaxSeq+1 || !impl.DepotOk(p) {
		t.Errorf("after the last number: %s", depotText(p))
	}
	for _, fuse := range []int{-1, 0, 1, 5} {
		for _, room := range []int{1000, used(p.Disk)} {
			at := setDisk(t, p, room, fuse)
			got, code := impl.Put(at, []byte("x"))
			wantDepot(t, "Put without a number", got, code, at, 3)
			got, code = impl.Put(at, make([]byte, impl.MaxLoad+1))
			wantDepot(t, "Put of too much data without a number", got, code, impl.Depot{}, 1)
		}
	}
	flushed, code := impl.Flush(p)
	if code != 0 || flushed.Seq != impl.MaxSeq+1 || flushed.Size != p.Size {
		t.Errorf("Flush after the last number: code %d, %s", code, depotText(flushed))
	}
}

func TestPutOnADiskThatIsTooSmall(t *testing.T) {
	p := mustPut(t, sampleDepot(t), "seven")
	for _, data := range []string{"", "x", "some more data", mixedBytes(200)} {
		frame := modelFrame(8, data)
		for part := range len(frame) {
			small := setDisk(t, p, used(p.Disk)+part, -1)
			ops := []impl.DiskOp{opAppend("log.3", frame)}
			want := impl.Depot{Gen: 3, Seq: 8, Size: p.Size, Stuck: true}
			checkOps(t, "Put that does not fit", small, ops, func(p impl.Depot) (impl.Depot, int) { return impl.Put(p, []byte(data)) }, want, 5)
			stuck, _ := impl.Put(small, []byte(data))
			body, _ := impl.DiskRead(stuck.Disk, "log.3")
			if string(body) != modelJournal(5, "five", "six", "seven")+frame[:part] || !impl.DepotOk(stuck) {
				t.Errorf("the journal ends with %d bytes of a frame: %s", part, depotText(stuck))
			}
			wantFound(t, "with a part of a frame", stuck.Disk, 3, 5, "old", "five", "six", "seven")
			crashed, _ := impl.DiskCrash(stuck.Disk, 9, []int{1000})
			wantFound(t, "with a part of a frame, after a crash", crashed, 3, 5, "old", "five", "six", "seven")
		}
		fits, code := impl.Put(setDisk(t, p, used(p.Disk)+len(frame), -1), []byte(data))
		if code != 0 || fits.Stuck || fits.Seq != 9 {
			t.Errorf("Put of %d bytes that fits: code %d, %s", len(data), code, depotText(fits))
		}
	}
}

func TestFlush(t *testing.T) {
	p := mustPut(t, sampleDepot(t), "seven", "eight")
	checkOps(t, "Flush", p, []impl.DiskOp{opSync("log.3")}, impl.Flush, p, 0)
	for cut := range p.Size {
		crashed, _ := impl.DiskCrash(p.Disk, 9, []int{0, cut})
		_, _, _, l, _ := impl.Find(crashed)
		texts := []string{"five", "six", "seven", "eight"}
		if n := len(l); n < 2 || n > 4 || !slices.Equal(textsOf(l), texts[:n]) {
			t.Errorf("without Flush, after a crash, %q is found", textsOf(l))
		}
	}
	lost, _ := impl.DiskCrash(p.Disk, 9, nil)
	wantFound(t, "without Flush", lost, 3, 5, "old", "five", "six")
	q, _ := impl.Flush(p)
	kept, _ := impl.DiskCrash(q.Disk, 0, nil)
	wantFound(t, "with Flush", kept, 3, 5, "old", "five", "six", "seven", "eight")
	if !impl.DepotOk(q) || impl.Crc(q.Disk.Files[1].Body) != impl.Crc(p.Disk.Files[1].Body) {
		t.Errorf("Flush changes the journal: %s", depotText(q))
	}
	empty := depotWith(t, 1, 1, nil)
	checkOps(t, "Flush of an empty journal", empty, []impl.DiskOp{opSync("log.1")}, impl.Flush, empty, 0)
}

func compactWith(data string) func(p impl.Depot) (impl.Depot, int) {
	return func(p impl.Depot) (impl.Depot, int) { return impl.Compact(p, []byte(data)) }
}

func TestCompact(t *testing.T) {
	p := mustPut(t, sampleDepot(t), "seven")
	syncDir := []impl.DiskOp{opSyncDir()}
	clean := opList(syncDir, syncDir)
	for _, data := range []string{"", "new data", mixedBytes(impl.MaxSnap)} {
		ops := opList(clean, newOps(4, 8, data), removals("log.3", "snap.3"), syncDir)
		checkOps(t, "Compact", p, ops, compactWith(data), impl.Depot{Gen: 4, Seq: 8}, 0)
		q, _ := impl.Compact(p, []byte(data))
		wantFound(t, "after Compact", q.Disk, 4, 8, data)
		wantNames(t, "after Compact", q.Disk, "log.4", "notes", "snap.4")
		q = mustPut(t, q, "eight")
		wantFound(t, "Put after Compact", q.Disk, 4, 8, data, "eight")
	}
	last := depotWith(t, impl.MaxGen-1, impl.MaxSeq, nil)
	q, code := impl.Compact(last, []byte("x"))
	if code != 0 || q.Gen != impl.MaxGen || q.Seq != impl.MaxSeq || !impl.DepotOk(q) {
		t.Errorf("Compact to the last generation: code %d, %s", code, depotText(q))
	}
}

func TestCompactRefused(t *testing.T) {
	check := func(what string, p impl.Depot, size int) {
		t.Helper()
		// Begin rejects its arguments, so that not even the turns become durable.
		p.Disk = mustDo(t, p.Disk, opCreate("y"))
		for _, fuse := range []int{-1, 0, 1, 20} {
			at := setDisk(t, p, p.Disk.Room, fuse)
			got, code := impl.Compact(at, make([]byte, size))
			wantDepot(t, what, got, code, at, 4)
		}
	}
	check("the last generation", depotWith(t, impl.MaxGen, 5, []string{"five"}), 3)
	check("too much data", sampleDepot(t), impl.MaxSnap+1)
	spent := sampleDepot(t)
	spent.Seq = impl.MaxSeq + 1
	check("no number", spent, 3)

	clean := []impl.DiskOp{opSyncDir(), opSyncDir()}
	refused := func(what string, p impl.Depot, parts ...[]impl.DiskOp) {
		t.Helper()
		checkRefused(t, what, p.Disk, opList(parts...), func(d impl.Disk) (impl.Depot, int) {
			p.Disk = d
			return impl.Compact(p, []byte("new"))
		}, p)
	}
	texts := []string{"five", "six"}
	refused("ten files", depotWith(t, 3, 5, texts, foreign(8)...), clean, newOps(4, 7, "new")[:1])
	refused("nine files", depotWith(t, 3, 5, texts, foreign(7)...), clean, newOps(4, 7, "new")[:5])
	next := sampleDepot(t)
	next.Disk.Next = impl.MaxId
	refused("no file number left", next, clean, newOps(4, 7, "new")[:1])
	next.Disk.Next = impl.MaxId - 1
	refused("one file number left", next, clean, newOps(4, 7, "new")[:5])

	p := depotWith(t, 3, 5, texts, foreign(8)...)
	q, _ := impl.Compact(p, []byte("new"))
	wantFound(t, "after a refused compaction", q.Disk, 3, 5, "old", "five", "six")
	q = mustPut(t, q, "seven")
	wantFound(t, "Put after a refused compaction", q.Disk, 3, 5, "old", "five", "six", "seven")
}

func TestCompactOnADiskThatIsTooSmall(t *testing.T) {
	p := mustPut(t, sampleDepot(t), "seven")
	snap := modelSnap(4, 8, "new data")
	ops := opList([]impl.DiskOp{opSyncDir(), opSyncDir()}, newOps(4, 8, "new data")[:2], removals("temp"), []impl.DiskOp{opSyncDir()})
	for part := range len(snap) {
		small := setDisk(t, p, used(p.Disk)+part, -1)
		checkOps(t, "Compact that does not fit", small, ops, compactWith("new data"), small, 5)
	}
	q, _ := impl.Compact(setDisk(t, p, used(p.Disk)+len(snap)-1, -1), []byte("new data"))
	wantFound(t, "a byte is missing", q.Disk, 3, 5, "old", "five", "six", "seven")
	wantNames(t, "a byte is missing", q.Disk, "log.3", "notes", "snap.3")
	if q.Stuck || !impl.DepotOk(q) {
		t.Errorf("a compaction that does not fit leaves %s", depotText(q))
	}
	q = mustPut(t, q, "8")
	wantFound(t, "Put after a byte was missing", q.Disk, 3, 5, "old", "five", "six", "seven", "8")
	q, code := impl.Compact(setDisk(t, p, used(p.Disk)+len(snap), -1), []byte("new data"))
	if code != 0 || q.Gen != 4 {
		t.Errorf("Compact that fits: code %d, %s", code, depotText(q))
	}
}

type depotCall struct {
	what string
	call func(p impl.Depot) (impl.Depot, int)
}

func depotCalls() []depotCall {
	return []depotCall{
		{"Put", func(p impl.Depot) (impl.Depot, int) { return impl.Put(p, []byte("x")) }},
		{"Put of nothing", func(p impl.Depot) (impl.Depot, int) { return impl.Put(p, nil) }},
		{"Flush", impl.Flush},
		{"Compact", compactWith("new")},
		{"Compact of too much", func(p impl.Depot) (impl.Depot, int) { return impl.Compact(p, make([]byte, impl.MaxSnap+1)) }},
	}
}

func TestStuckDepots(t *testing.T) {
	p := mustPut(t, sampleDepot(t), "seven")
	p.Stuck = true
	var list []impl.Depot
	for _, fuse := range []int{-1, 0, 1, impl.MaxFuse} {
		q := setDisk(t, p, used(p.Disk), fuse)
		other, spent := q, q
		other.Size, spent.Seq = 12345, impl.MaxSeq+1
		gone := q
		gone.Gen = impl.MaxGen
		list = append(list, q, other, spent, gone)
	}
	list = append(list, impl.Depot{Disk: diskWith(t), Gen: 1, Seq: 1, Stuck: true})
	for _, q := range list {
		for _, c := range depotCalls() {
			got, code := c.call(q)
			wantDepot(t, c.what+" of a stuck depot", got, code, q, 7)
		}
		got, code := impl.Put(q, make([]byte, impl.MaxLoad+1))
		wantDepot(t, "Put of too much data to a stuck depot", got, code, impl.Depot{}, 1)
	}
}

func TestInvalidDepots(t *testing.T) {
	start := mustPut(t, sampleDepot(t), "seven")
	var list []impl.Depot
	for _, change := range []func(p *impl.Depot){
		func(p *impl.Depot) { p.Gen = 0 },
		func(p *impl.Depot) { p.Gen = 4 },
		func(p *impl.Depot) { p.Gen, p.Stuck = impl.MaxGen+1, true },
		func(p *impl.Depot) { p.Seq = 0 },
		func(p *impl.Depot) { p.Seq, p.Stuck = impl.MaxSeq+2, true },
		func(p *impl.Depot) { p.Size = -1 },
		func(p *impl.Depot) { p.Size, p.Stuck, p.Disk.Fuse = -1, true, 0 },
		func(p *impl.Depot) { p.Size++ },
		func(p *impl.Depot) { p.Size, p.Disk.Fuse = 0, 1 },
		func(p *impl.Depot) { p.Disk = mustDo(t, p.Disk, opRemove("log.3")) },
		func(p *impl.Depot) { p.Disk.Room, p.Stuck = 2, true },
		func(p *impl.Depot) { p.Disk.Next, p.Disk.Fuse = 1, 0 },
	} {
		p := start
		p.Disk = deepDisk(p.Disk)
		change(&p)
		list = append(list, p)
	}
	for _, d := range invalidDisks() {
		list = append(list, impl.Depot{Disk: d, Gen: 1, Seq: 1}, impl.Depot{Disk: d, Gen: 1, Seq: 1, Stuck: true})
	}
	for i, p := range list {
		for _, c := range depotCalls() {
			got, code := c.call(p)
			wantDepot(t, fmt.Sprint(c.what, " of the invalid depot ", i), got, code, impl.Depot{}, 1)
		}
	}
	for _, fuse := range []int{-1, 0, 3} {
		for _, size := range []int{impl.MaxLoad + 1, impl.MaxLoad + 2, impl.MaxDisk, impl.MaxDisk + 1} {
			got, code := impl.Put(setDisk(t, start, used(start.Disk), fuse), make([]byte, size))
			wantDepot(t, "Put of too much data", got, code, impl.Depot{}, 1)
		}
	}
}

func TestDepotsWithoutPower(t *testing.T) {
	// Without power nothing needs to be there.
	for _, p := range []impl.Depot{
		{Disk: impl.Disk{Next: 1}, Gen: 1, Seq: 1},
		{Disk: impl.Disk{Next: 1}, Gen: 2, Seq: impl.MaxSeq, Size: 99},
		setDisk(t, sampleDepot(t), used(sampleDepot(t).Disk), 0),
		{Disk: setRoom(t, fullTurns(impl.MaxTurns), 5, 0), Gen: 1, Seq: 1},
		{Disk: setRoom(t, keptFiles(impl.MaxFiles), 0, 0), Gen: 1, Seq: 1},
	} {
		for _, c := range depotCalls()[:4] {
			got, code := c.call(p)
			wantDepot(t, c.what+" without power", got, code, p, 2)
		}
		got, code := impl.Begin(p.Disk, p.Gen, p.Seq, nil)
		wantDepot(t, "Begin without power", got, code, impl.Depot{Disk: p.Disk, Gen: p.Gen, Seq: p.Seq}, 2)
	}
}

// crashes calls check with the disk after a power failure, for any number of turns and several cuts.
func crashes(t *testing.T, d impl.Disk, check func(crashed impl.Disk)) {
	t.Helper()
	for turns := range len(d.Turns) + 1 {
		for _, cuts := range [][]int{nil, {1}, {3, 0}, {0, 9, 2}, {20}, {0, 30}, {40, 0, 0}, {1 << 20}} {
			crashed, ok := impl.DiskCrash(d, turns, cuts)
			if !ok {
				t.Fatal("DiskCrash of the disk of a depot returns false")
			}
			check(crashed)
		}
	}
}

// checkRestart begins a generation on what was found, and checks that it is the only one.
func checkRestart(t *testing.T, what string, d impl.Disk) {
	t.Helper()
	gen, seq, _, l, _ := impl.Find(d)
	p, code := impl.Begin(d, gen, seq+len(l), []byte("restarted"))
	if code != 0 || p.Gen != gen+1 || p.Seq != seq+len(l) || !impl.DepotOk(p) {
		t.Errorf("%s: after a restart: code %d, %s", what, code, depotText(p))
	}
	wantNames(t, what, p.Disk, fmt.Sprint("log.", gen+1), fmt.Sprint("snap.", gen+1))
	wantFound(t, what, p.Disk, gen+1, seq+len(l), "restarted")
}

func TestInterruptedCompactions(t *testing.T) {
	d, _ := impl.DiskNew(1000)
	p, _ := impl.Begin(d, 0, 1, []byte("first"))
	p, _ = impl.Flush(mustPut(t, p, "a", "b"))
	texts := []string{"a", "b", "c", "d"}
	for _, unflushed := range []int{0, 2} {
		p := mustPut(t, p, texts[2:2+unflushed]...)
		seen := map[int]int{}
		for fuse := range 12 {
			what := fmt.Sprint("a compaction with power for ", fuse, " operations")
			q, code := impl.Compact(setDisk(t, p, 1000, fuse), []byte("second"))
			if complete := fuse == 11; code != 0 && complete || code != 2 && !complete {
				t.Fatalf("%s has the code %d", what, code)
			}
			// DiRename is the sixth operation; the DiSyncDir that makes it durable is the eighth.
			if fuse < 6 {
				wantFound(t, what, q.Disk, 1, 1, "first", texts[:2+unflushed]...)
			} else {
				wantFound(t, what, q.Disk, 2, 3+unflushed, "second")
			}
			crashes(t, q.Disk, func(crashed impl.Disk) {
				gen, seq, data, l, _ := impl.Find(crashed)
				seen[gen]++
				old := gen == 1 && seq == 1 && string(data) == "first" && len(l) >= 2 && slices.Equal(textsOf(l), texts[:len(l)]) && fuse < 8
				fresh := gen == 2 && seq == 3+unflushed && string(data) == "second" && len(l) == 0 && fuse >= 6
				if !old && !fresh {
					t.Errorf("%s and a crash: found %d, %d, %q, %q", what, gen, seq, data, textsOf(l))
				}
				checkRestart(t, what, crashed)
			})
		}
		if seen[1] < 20 || seen[2] < 20 {
			t.Errorf("the generations were found %v times", seen)
		}
	}
}

func TestInterruptedStarts(t *testing.T) {
	d, _ := impl.DiskNew(1000)
	for fuse := range 10 {
		p, _ := impl.Begin(setRoom(t, d, 1000, fuse), 0, 1, []byte("first"))
		crashes(t, p.Disk, func(crashed impl.Disk) {
			gen, seq, data, l, code := impl.Find(crashed)
			none := gen == 0 && len(data) == 0 && fuse < 8
			one := gen == 1 && string(data) == "first" && fuse >= 6
			if code != 0 || seq != 1 || len(l) != 0 || !none && !one {
				t.Errorf("a start with power for %d operations and a crash: found %d, %d, %q, %q, %d", fuse, gen, seq, data, textsOf(l), code)
			}
			checkRestart(t, fmt.Sprint("a start with power for ", fuse, " operations"), crashed)
		})
	}
}

func TestStartsThatAreInterruptedAgainAndAgain(t *testing.T) {
	d, _ := impl.DiskNew(1000)
	for gen := range 5 {
		// The names of each new generation become durable, but the old ones are not removed.
		p, code := impl.Begin(setRoom(t, d, 1000, 8), gen, 1, []byte("data"))
		if code != 2 || p.Gen != gen {
			t.Fatalf("start %d: code %d, %s", gen, code, depotText(p))
		}
		d, _ = impl.DiskCrash(p.Disk, 0, nil)
		wantFound(t, "an interrupted start", d, gen+1, 1, "data")
		if gen < 4 {
			checkRestart(t, "an interrupted start", d)
		}
	}
	// Five generations are MaxFiles files.
	p, code := impl.Begin(d, 5, 1, []byte("data"))
	wantDepot(t, "a start beside five generations", p, code, impl.Depot{Disk: d, Gen: 5, Seq: 1}, 4)
	wantFound(t, "a start beside five generations", p.Disk, 5, 1, "data")
}

func TestCrashesAfterEachPut(t *testing.T) {
	d, _ := impl.DiskNew(1000)
	p, _ := impl.Begin(d, 0, 1, nil)
	texts := []string{"a", "", "ccc", "some data", "e"}
	flushed := 0
	for n, s := range texts {
		p = mustPut(t, p, s)
		wantFound(t, "before a crash", p.Disk, 1, 1, "", texts[:n+1]...)
		found := map[int]bool{}
		for cut := range p.Size + 1 {
			crashed, _ := impl.DiskCrash(p.Disk, 9, []int{0, cut})
			_, _, _, l, _ := impl.Find(crashed)
			if len(l) < flushed || len(l) > n+1 || !slices.Equal(textsOf(l), texts[:len(l)]) {
				t.Errorf("after a crash, %q is found", textsOf(l))
			}
			found[len(l)] = true
			checkRestart(t, "after a crash", crashed)
		}
		if len(found) != n+2-flushed {
			t.Errorf("only the numbers of entries %v are found", found)
		}
		if n%2 == 1 {
			p, _ = impl.Flush(p)
			flushed = n + 1
		}
	}
}

// stepper executes operations as long as none has a code.
type stepper struct {
	d    impl.Disk
	code int
}

func (s *stepper) do(op impl.DiskOp) {
	if s.code == 0 {
		s.d, s.code = impl.DiskDo(s.d, op)
	}
}

func (s *stepper) removeIfThere(name string) {
	if _, there := impl.DiskRead(s.d, name); there {
		s.do(opRemove(name))
	}
}

// modelBegin reads the directory anew before each operation that depends on it.
func modelBegin(d impl.Disk, gen int, seq int, data string) (impl.Depot, int) {
	if !impl.DiskOk(d) || gen < 0 || gen >= impl.MaxGen || seq < 1 || seq > impl.MaxSeq || len(data) > impl.MaxSnap {
		return impl.Depot{}, 1
	}
	s := stepper{d: d}
	snap, log := fmt.Sprint("snap.", gen+1), fmt.Sprint("log.", gen+1)
	s.do(opSyncDir())
	s.removeIfThere("temp")
	s.removeIfThere(log)
	s.do(opSyncDir())
	s.do(opCreate("temp"))
	s.do(opAppend("temp", modelSnap(gen+1, seq, data)))
	if s.code == 5 {
		s.code = 0
		s.do(opRemove("temp"))
		s.do(opSyncDir())
		if s.code == 0 {
			s.code = 5
		}
		return impl.Depot{Disk: s.d, Gen: gen, Seq: seq}, s.code
	}
	s.do(opSync("temp"))
	s.do(opRename("temp", snap))
	s.do(opCreate(log))
	s.do(opSyncDir())
	for _, link := range impl.DiskDir(s.d) {
		if other, ok := impl.GenOf(link.Name); ok && other != gen+1 {
			s.do(opRemove(link.Name))
		}
	}
	s.do(opSyncDir())
	if s.code == 0 {
		gen++
	}
	return impl.Depot{Disk: s.d, Gen: gen, Seq: seq}, s.code
}

func modelDepotOk(p impl.Depot) bool {
	if !impl.DiskOk(p.Disk) || p.Gen < 1 || p.Gen > impl.MaxGen || p.Seq < 1 || p.Seq > impl.MaxSeq+1 || p.Size < 0 {
		return false
	}
	journal, there := impl.DiskRead(p.Disk, fmt.Sprint("log.", p.Gen))
	return p.Disk.Fuse == 0 || p.Stuck || there && len(journal) == p.Size
}

func modelPut(p impl.Depot, data string) (impl.Depot, int) {
	if !modelDepotOk(p) || len(data) > impl.MaxLoad {
		return impl.Depot{}, 1
	}
	if p.Stuck {
		return p, 7
	}
	if p.Seq == impl.MaxSeq+1 {
		return p, 3
	}
	frame := modelFrame(p.Seq, data)
	disk, code := impl.DiskDo(p.Disk, opAppend(fmt.Sprint("log.", p.Gen), frame))
	p.Disk = disk
	if code == 0 {
		p.Seq, p.Size = p.Seq+1, p.Size+len(frame)
	}
	p.Stuck = code == 5
	return p, code
}

func modelFlush(p impl.Depot) (impl.Depot, int) {
	if !modelDepotOk(p) {
		return impl.Depot{}, 1
	}
	if p.Stuck {
		return p, 7
	}
	disk, code := impl.DiskDo(p.Disk, opSync(fmt.Sprint("log.", p.Gen)))
	p.Disk = disk
	return p, code
}

func modelCompact(p impl.Depot, data string) (impl.Depot, int) {
	if !modelDepotOk(p) {
		return impl.Depot{}, 1
	}
	if p.Stuck {
		return p, 7
	}
	q, code := modelBegin(p.Disk, p.Gen, p.Seq, data)
	if code == 1 {
		return p, 4
	}
	if code != 0 {
		p.Disk = q.Disk
		return p, code
	}
	return q, 0
}

// randomDepotDisk has files of several generations and others, and turns, and often little of something.
func randomDepotDisk(r *rand.Rand) impl.Disk {
	names := []string{"temp", "snap.1", "snap.2", "snap.3", "snap.10", "log.1", "log.2", "log.3", "log.10", "snap.02", "notes", "log.0"}
	d, _ := impl.DiskNew(2000)
	for range r.Intn(40) {
		name := names[r.Intn(len(names))]
		gen, _ := impl.GenOf(name)
		body := modelSnap(max(gen, 1), 1+r.Intn(9), mixedBytes(r.Intn(9)))
		if strings.HasPrefix(name, "log") {
			body = modelJournal(1+r.Intn(9), mixedBytes(r.Intn(9)), "x")
		}
		ops := []impl.DiskOp{
			opCreate(name), opCreate(name), opCreate(name), opAppend(name, body), opAppend(name, body), opSync(name),
			opRename(name, names[r.Intn(len(names))]), opRemove(name), opSyncDir(),
		}
		d, _ = impl.DiskDo(d, ops[r.Intn(len(ops))])
	}
	d.Room = []int{2000, used(d), used(d) + r.Intn(60)}[r.Intn(3)]
	d.Fuse = []int{-1, -1, 0, r.Intn(20), r.Intn(20), impl.MaxFuse}[r.Intn(6)]
	if r.Intn(8) == 0 {
		d.Next = impl.MaxId - r.Intn(4)
	}
	return d
}

func TestRandomDepotsAreLikeTheModel(t *testing.T) {
	r := rand.New(rand.NewSource(7))
	codes := map[string]int{}
	note := func(what string, got impl.Depot, code int, want impl.Depot, wantCode int) {
		t.Helper()
		wantDepot(t, what, got, code, want, wantCode)
		codes[fmt.Sprint(what, " ", wantCode)]++
	}
	for range 6000 {
		d := randomDepotDisk(r)
		gen := []int{-1, 0, 1, 1, 2, 2, 3, 9, 10, impl.MaxGen - 1, impl.MaxGen}[r.Intn(11)]
		seq := []int{0, 1, 2, 7, 7, 300, impl.MaxSeq, impl.MaxSeq + 1}[r.Intn(8)]
		data := mixedBytes(r.Intn(20))
		got, code := impl.Begin(d, gen, seq, []byte(data))
		want, wantCode := modelBegin(d, gen, seq, data)
		note("Begin", got, code, want, wantCode)
		journal, _ := impl.DiskRead(d, fmt.Sprint("log.", gen))
		p := impl.Depot{Disk: d, Gen: gen, Seq: seq, Size: len(journal) - r.Intn(20)/19, Stuck: r.Intn(6) == 0}
		if impl.DepotOk(p) != modelDepotOk(p) {
			t.Errorf("DepotOk of %s is %v", depotText(p), !modelDepotOk(p))
		}
		got, code = impl.Put(p, []byte(data))
		want, wantCode = modelPut(p, data)
		note("Put", got, code, want, wantCode)
		got, code = impl.Flush(p)
		want, wantCode = modelFlush(p)
		note("Flush", got, code, want, wantCode)
		got, code = impl.Compact(p, []byte(data))
		want, wantCode = modelCompact(p, data)
		note("Compact", got, code, want, wantCode)
	}
	for _, c := range []string{
		"Begin 0", "Begin 1", "Begin 2", "Begin 4", "Begin 5", "Put 0", "Put 1", "Put 2", "Put 3", "Put 5", "Put 7",
		"Flush 0", "Flush 1", "Flush 2", "Flush 7", "Compact 0", "Compact 1", "Compact 2", "Compact 4", "Compact 5", "Compact 7",
	} {
		if codes[c] < 20 {
			t.Errorf("%s was seen only %d times", c, codes[c])
		}
	}
}

// life is a depot whose snapshots contain everything that was put before them, so that what it holds can be read from any generation.
type life struct {
	p    impl.Depot
	put  []string
	sure int
}

func snapOf(put []string) string { return strings.Join(put, "") }

// content returns everything that is found on a disk.
func content(t *testing.T, d impl.Disk) []string {
	t.Helper()
	_, seq, data, l, code := impl.Find(d)
	var all []string
	for s := range strings.SplitAfterSeq(string(data), ";") {
		if s != "" {
			all = append(all, s)
		}
	}
	if code != 0 || len(all) != seq-1 {
		t.Fatalf("a snapshot of %d entries has the number %d", len(all), seq)
	}
	return append(all, textsOf(l)...)
}

// crash checks what is left after a power failure, and starts again, perhaps in several attempts.
func (x *life) crash(t *testing.T, r *rand.Rand) {
	d, _ := impl.DiskCrash(x.p.Disk, r.Intn(8), []int{r.Intn(40), r.Intn(40)})
	for attempt := range 3 {
		left := content(t, d)
		if n := len(left); n < x.sure || n > len(x.put) || !slices.Equal(left, x.put[:n]) {
			t.Fatalf("after a crash, %d entries are found of %d, of which %d are flushed", n, len(x.put), x.sure)
		}
		x.put, x.sure = left, len(left)
		gen, seq, _, l, _ := impl.Find(d)
		// Each attempt may leave one more generation, and there are at most MaxFiles files.
		fuse := []int{r.Intn(25) - 1, r.Intn(25) - 1, -1}[attempt]
		d = setRoom(t, d, 20000, fuse)
		p, code := impl.Begin(d, gen, seq+len(l), []byte(snapOf(left)))
		x.p = p
		if code == 0 {
			return
		}
		if code != 2 {
			t.Fatalf("a start has the code %d", code)
		}
		d, _ = impl.DiskCrash(p.Disk, r.Intn(8), []int{r.Intn(40), r.Intn(40)})
	}
}

// step executes one function and returns its code.
func (x *life) step(r *rand.Rand, entry string) int {
	code := 0
	switch r.Intn(8) {
	default:
		x.p, code = impl.Put(x.p, []byte(entry))
		if code == 0 {
			x.put = append(x.put, entry)
		}
	case 0, 1:
		x.p, code = impl.Flush(x.p)
		if code == 0 {
			x.sure = len(x.put)
		}
	case 2:
		x.p, code = impl.Compact(x.p, []byte(snapOf(x.put)))
		if code == 0 {
			x.sure = len(x.put)
		}
	}
	return code
}

func TestWhatIsPutIsFoundInSessionsWithCrashes(t *testing.T) {
	codes := map[int]int{}
	for seed := range 60 {
		r := rand.New(rand.NewSource(int64(seed)))
		d, _ := impl.DiskNew(20000)
		x := life{p: impl.Depot{Disk: d}}
		x.crash(t, r)
		for i := range 150 {
			if r.Intn(12) == 0 {
				room := used(x.p.Disk) + r.Intn(200)
				x.p = setDisk(t, x.p, room, x.p.Disk.Fuse)
			}
			code := x.step(r, fmt.Sprint("entry ", seed, " ", i, ";"))
			codes[code]++
			if !slices.Equal(content(t, x.p.Disk), x.put) {
				t.Fatalf("%q is found; want %q", content(t, x.p.Disk), x.put)
			}
			if !impl.DepotOk(x.p) || x.p.Seq != len(x.put)+1 {
				t.Fatalf("after %d entries: %s", len(x.put), depotText(x.p))
			}
			if code == 0 && len(x.p.Disk.Turns) == 0 && len(impl.DiskDir(x.p.Disk)) != 2 {
				t.Fatalf("there is more than one generation: %s", depotText(x.p))
			}
			if code == 2 || code == 7 || r.Intn(15) == 0 {
				x.crash(t, r)
			}
		}
	}
	for _, code := range []int{0, 2, 5, 7} {
		if codes[code] < 20 {
			t.Errorf("the code %d was seen only %d times", code, codes[code])
		}
	}
}

// depotResults calls every function with every code, and returns all slices of the results as disks.
func depotResults(t *testing.T, p impl.Depot, data []byte) []impl.Disk {
	t.Helper()
	var list []impl.Disk
	codes := map[string]bool{}
	note := func(what string, q impl.Depot, code int) {
		codes[fmt.Sprint(what, code)] = true
		list = append(list, q.Disk)
	}
	all := func(p impl.Depot) {
		q, code := impl.Begin(p.Disk, p.Gen, p.Seq, data)
		note("Begin", q, code)
		q, code = impl.Put(p, data)
		note("Put", q, code)
		q, code = impl.Flush(p)
		note("Flush", q, code)
		q, code = impl.Compact(p, data)
		note("Compact", q, code)
		_, _, snap, l, _ := impl.Find(p.Disk)
		found := impl.Disk{Files: []impl.File{{Body: snap}}}
		for _, load := range l {
			found.Files = append(found.Files, impl.File{Body: load.Data})
		}
		list = append(list, found)
	}
	room := used(p.Disk)
	for _, fuse := range []int{-1, 0, 1, 5, 9} {
		for _, left := range []int{0, 5, 500} {
			// Not DiskSet, which would copy the disk.
			q := p
			q.Disk.Room, q.Disk.Fuse = room+left, fuse
			all(q)
			q.Disk.Next = impl.MaxId
			all(q)
			q.Seq = impl.MaxSeq + 1
			all(q)
			q.Stuck = true
			all(q)
		}
	}
	for _, c := range strings.Fields("Begin0 Begin1 Begin2 Begin4 Begin5 Put0 Put2 Put3 Put5 Put7 Flush0 Flush2 Flush7 Compact0 Compact2 Compact4 Compact5 Compact7") {
		if !codes[c] {
			t.Errorf("no result has the code %s", c)
		}
	}
	return list
}

// shareDepot has files of other generations, foreign files, and changes that are not durable.
func shareDepot(t *testing.T) impl.Depot {
	t.Helper()
	p := depotWith(t, 3, 5, []string{"five", "six"}, entry{"notes", "foreign"}, snapEntry(2, 1, "two"), entry{"log.4", "stale"})
	p.Disk = mustDo(t, p.Disk, opRename("notes", "letters"), opCreate("temp"), opAppend("temp", "part"))
	p = mustPut(t, p, "seven")
	p.Disk = spareDisk(p.Disk)
	return p
}

func TestDepotFunctionsLeaveTheirArgumentsAlone(t *testing.T) {
	p := shareDepot(t)
	data, allData := withSpare("data and more data")
	disk, bytesBefore := wholeDisk(p.Disk), bytes.Clone(allData)
	unchanged := func(when string) {
		t.Helper()
		wantDisk(t, when, wholeDisk(p.Disk), disk)
		if !bytes.Equal(allData, bytesBefore) {
			t.Errorf("%s: the data is changed: %q", when, allData)
		}
	}
	results := depotResults(t, p, data)
	unchanged("after the calls")
	again := depotResults(t, p, data)
	for i := range results {
		wantDisk(t, "a result that is computed again", again[i], results[i])
	}
	for _, e := range results {
		scribble(e)
	}
	unchanged("after the results were overwritten")
	third := depotResults(t, p, data)
	scribble(p.Disk)
	clear(allData)
	for i := range third {
		wantDisk(t, "a result after the arguments were overwritten", third[i], again[i])
	}
}

func TestSlicesOfOneDepotShareNothing(t *testing.T) {
	for n, e := range depotResults(t, shareDepot(t), []byte("data")) {
		for i := range e.Files {
			want := deepDisk(e)
			overwrite(e.Files[i].Body)
			overwrite(want.Files[i].Body)
			wantDisk(t, fmt.Sprintf("result %d after its file %d was overwritten", n, i), e, want)
		}
	}
}
