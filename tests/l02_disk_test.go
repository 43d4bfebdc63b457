package tests

import (
	"bytes"
	"fmt"
	"math"
	"math/rand"
	"slices"
	"strings"
	"testing"

	"loop.example/g00661/impl"
)

// sampleDisk has a file that is kept, one that is renamed, one that is removed, one that is replaced and two that are new.
func sampleDisk() impl.Disk {
	return impl.Disk{
		Room: 40,
		Fuse: 5,
		Next: 12,
		Files: []impl.File{
			{Id: 2, Body: []byte("two"), Safe: 3},
			{Id: 3, Body: []byte("three"), Safe: 2},
			{Id: 5, Body: []byte("five"), Safe: 0},
			{Id: 7, Body: []byte("seven"), Safe: 4},
			{Id: 8, Body: nil, Safe: 0},
			{Id: 11, Body: []byte("eleven"), Safe: 6},
		},
		Kept: []impl.Link{{Name: "a", Id: 7}, {Name: "b", Id: 2}, {Name: "c", Id: 3}, {Name: "d", Id: 5}},
		Turns: []impl.Turn{
			{Kind: impl.DiCreate, Name: "0", Id: 11},
			{Kind: impl.DiRename, Name: "a", To: "z"},
			{Kind: impl.DiRemove, Name: "b"},
			{Kind: impl.DiRename, Name: "c", To: "d"},
			{Kind: impl.DiCreate, Name: "b", Id: 8},
		},
	}
}

var sampleDir = []impl.Link{{Name: "0", Id: 11}, {Name: "b", Id: 8}, {Name: "d", Id: 3}, {Name: "z", Id: 7}}

// fullTurns returns a disk with one file and n turns, which rename it from a to b and back.
func fullTurns(n int) impl.Disk {
	d := impl.Disk{Room: 10, Fuse: -1, Next: 2, Files: []impl.File{{Id: 1}}, Kept: []impl.Link{{Name: "a", Id: 1}}}
	for i := range n {
		from, to := "a", "b"
		if i%2 == 1 {
			from, to = to, from
		}
		d.Turns = append(d.Turns, impl.Turn{Kind: impl.DiRename, Name: from, To: to})
	}
	return d
}

// keptFiles returns a disk with n empty files, which are named a, b and so on.
func keptFiles(n int) impl.Disk {
	d := impl.Disk{Room: 10, Fuse: -1, Next: n + 1}
	for i := range n {
		d.Files = append(d.Files, impl.File{Id: i + 1})
		d.Kept = append(d.Kept, impl.Link{Name: string(rune('a' + i)), Id: i + 1})
	}
	return d
}

func deepDisk(d impl.Disk) impl.Disk {
	d.Files = slices.Clone(d.Files)
	for i := range d.Files {
		d.Files[i].Body = bytes.Clone(d.Files[i].Body)
	}
	d.Kept = slices.Clone(d.Kept)
	d.Turns = slices.Clone(d.Turns)
	return d
}

func sameFile(a, b impl.File) bool {
	return a.Id == b.Id && a.Safe == b.Safe && bytes.Equal(a.Body, b.Body)
}

func sameDisk(a, b impl.Disk) bool {
	return a.Room == b.Room && a.Fuse == b.Fuse && a.Next == b.Next &&
		slices.EqualFunc(a.Files, b.Files, sameFile) && slices.Equal(a.Kept, b.Kept) && slices.Equal(a.Turns, b.Turns)
}

func wantDisk(t *testing.T, what string, got, want impl.Disk) {
	t.Helper()
	if !sameDisk(got, want) {
		t.Errorf("%s: the disk is %+v; want %+v", what, got, want)
	}
}

func wantDo(t *testing.T, d impl.Disk, op impl.DiskOp, want impl.Disk, wantCode int) {
	t.Helper()
	got, code := impl.DiskDo(d, op)
	if code != wantCode {
		t.Errorf("DiskDo of %+v: code %d; want %d", op, code, wantCode)
	}
	wantDisk(t, fmt.Sprintf("DiskDo of %+v", op), got, want)
}

// wantRefused checks that the operation has this code and leaves the disk as it is.
func wantRefused(t *testing.T, d impl.Disk, op impl.DiskOp, wantCode int) {
	t.Helper()
	wantDo(t, d, op, deepDisk(d), wantCode)
}

func opCreate(name string) impl.DiskOp { return impl.DiskOp{Kind: impl.DiCreate, Name: name} }
func opSync(name string) impl.DiskOp   { return impl.DiskOp{Kind: impl.DiSync, Name: name} }
func opRemove(name string) impl.DiskOp { return impl.DiskOp{Kind: impl.DiRemove, Name: name} }
func opSyncDir() impl.DiskOp           { return impl.DiskOp{Kind: impl.DiSyncDir} }
func opAppend(name, data string) impl.DiskOp {
	return impl.DiskOp{Kind: impl.DiAppend, Name: name, Data: []byte(data)}
}
func opRename(name, to string) impl.DiskOp {
	return impl.DiskOp{Kind: impl.DiRename, Name: name, To: to}
}

func TestNameOk(t *testing.T) {
	const allowed = "abcdefghijklmnopqrstuvwxyz0123456789."
	for c := range 256 {
		one := string([]byte{byte(c)})
		want := strings.Contains(allowed, one)
		for _, s := range []string{one, "a" + one, one + "9", "." + one + "z"} {
			if impl.NameOk(s) != want {
				t.Errorf("NameOk(%q) = %v", s, !want)
			}
		}
	}
	for size := range 50 {
		want := 1 <= size && size <= impl.MaxName
		for _, c := range []string{"a", "9", "."} {
			if impl.NameOk(strings.Repeat(c, size)) != want {
				t.Errorf("NameOk of %d times %q = %v", size, c, !want)
			}
		}
	}
	if impl.NameOk("ä") || impl.NameOk("abcdefghijklmno\n") || impl.NameOk("Snap.1") {
		t.Error("a name has other bytes")
	}
}

type diskCase struct {
	what   string
	change func(d *impl.Disk)
	want   bool
}

func checkDiskOk(t *testing.T, start func() impl.Disk, cases []diskCase) {
	t.Helper()
	if !impl.DiskOk(start()) {
		t.Fatal("the disk to start with is not valid")
	}
	for _, c := range cases {
		d := start()
		c.change(&d)
		if impl.DiskOk(d) != c.want {
			t.Errorf("%s: DiskOk = %v", c.what, !c.want)
		}
	}
}

func TestDiskOkOfNumbers(t *testing.T) {
	checkDiskOk(t, sampleDisk, []diskCase{
		{"room full", func(d *impl.Disk) { d.Room = 23 }, true},
		{"room too small", func(d *impl.Disk) { d.Room = 22 }, false},
		{"room 0 with bytes", func(d *impl.Disk) { d.Room = 0 }, false},
		{"room MaxDisk", func(d *impl.Disk) { d.Room = impl.MaxDisk }, true},
		{"room above MaxDisk", func(d *impl.Disk) { d.Room = impl.MaxDisk + 1 }, false},
		{"fuse -2", func(d *impl.Disk) { d.Fuse = -2 }, false},
		{"fuse -1", func(d *impl.Disk) { d.Fuse = -1 }, true},
		{"fuse 0", func(d *impl.Disk) { d.Fuse = 0 }, true},
		{"fuse MaxFuse", func(d *impl.Disk) { d.Fuse = impl.MaxFuse }, true},
		{"fuse above MaxFuse", func(d *impl.Disk) { d.Fuse = impl.MaxFuse + 1 }, false},
		{"fuse MinInt", func(d *impl.Disk) { d.Fuse = math.MinInt }, false},
		{"next equal to an Id", func(d *impl.Disk) { d.Next = 11 }, false},
		{"next MaxId", func(d *impl.Disk) { d.Next = impl.MaxId }, true},
		{"next above MaxId", func(d *impl.Disk) { d.Next = impl.MaxId + 1 }, false},
	})
	empty := func() impl.Disk { return impl.Disk{Fuse: -1, Next: 1} }
	checkDiskOk(t, empty, []diskCase{
		{"room -1", func(d *impl.Disk) { d.Room = -1 }, false},
		{"room MinInt", func(d *impl.Disk) { d.Room = math.MinInt }, false},
		{"room MaxInt", func(d *impl.Disk) { d.Room = math.MaxInt }, false},
		{"next 0", func(d *impl.Disk) { d.Next = 0 }, false},
		{"next -1", func(d *impl.Disk) { d.Next = -1 }, false},
		{"empty slices", func(d *impl.Disk) { d.Files, d.Kept, d.Turns = []impl.File{}, []impl.Link{}, []impl.Turn{} }, true},
	})
	if impl.DiskOk(impl.Disk{}) {
		t.Error("the zero value is valid")
	}
	if !impl.DiskOk(keptFiles(impl.MaxFiles)) || impl.DiskOk(keptFiles(impl.MaxFiles+1)) {
		t.Error("the number of files is not limited to MaxFiles")
	}
	if !impl.DiskOk(fullTurns(impl.MaxTurns)) || impl.DiskOk(fullTurns(impl.MaxTurns+1)) {
		t.Error("the number of turns is not limited to MaxTurns")
	}
}

func TestDiskOkOfFiles(t *testing.T) {
	big := func() impl.Disk {
		d := keptFiles(2)
		d.Room = impl.MaxDisk
		d.Files[0].Body = make([]byte, impl.MaxDisk/2)
		d.Files[1].Body = make([]byte, impl.MaxDisk-impl.MaxDisk/2)
		return d
	}
	checkDiskOk(t, big, []diskCase{
		{"one byte too many", func(d *impl.Disk) { d.Files[0].Body = append(d.Files[0].Body, 0) }, false},
	})
	checkDiskOk(t, sampleDisk, []diskCase{
		{"safe -1", func(d *impl.Disk) { d.Files[1].Safe = -1 }, false},
		{"safe 0", func(d *impl.Disk) { d.Files[1].Safe = 0 }, true},
		{"safe all", func(d *impl.Disk) { d.Files[1].Safe = 5 }, true},
		{"safe too many", func(d *impl.Disk) { d.Files[1].Safe = 6 }, false},
		{"safe of no bytes", func(d *impl.Disk) { d.Files[4].Safe = 1 }, false},
		{"safe MaxInt", func(d *impl.Disk) { d.Files[5].Safe = math.MaxInt }, false},
		{"not in order", func(d *impl.Disk) { d.Files[0], d.Files[1] = d.Files[1], d.Files[0] }, false},
		{"one file twice", func(d *impl.Disk) { d.Files[1] = d.Files[0] }, false},
		{"a file without a link", func(d *impl.Disk) { d.Files[1].Id = 4 }, false},
		{"one file more", func(d *impl.Disk) { d.Files = slices.Insert(d.Files, 2, impl.File{Id: 4}) }, false},
		{"one file less", func(d *impl.Disk) { d.Files = d.Files[:5] }, false},
	})
	first := func() impl.Disk { return keptFiles(1) }
	setId := func(id int) func(d *impl.Disk) {
		return func(d *impl.Disk) { d.Files[0].Id, d.Kept[0].Id = id, id }
	}
	checkDiskOk(t, first, []diskCase{
		{"id 0", setId(0), false},
		{"id -1", setId(-1), false},
		{"id MinInt", setId(math.MinInt), false},
		{"id Next", setId(2), false},
		{"id MaxInt", setId(math.MaxInt), false},
		{"id Next - 1", func(d *impl.Disk) { setId(impl.MaxId - 1)(d); d.Next = impl.MaxId }, true},
		{"id MaxId", func(d *impl.Disk) { setId(impl.MaxId)(d); d.Next = impl.MaxId }, false},
	})
}

func TestDiskOkOfLinks(t *testing.T) {
	checkDiskOk(t, sampleDisk, []diskCase{
		{"empty name", func(d *impl.Disk) { d.Kept[0].Name = "" }, false},
		{"another name", func(d *impl.Disk) { d.Kept[3].Name = "e" }, true},
		{"a name that a turn needs", func(d *impl.Disk) { d.Kept[2].Name = "bb" }, false},
		{"other byte", func(d *impl.Disk) { d.Kept[3].Name = "D" }, false},
		{"not in order", func(d *impl.Disk) { d.Kept[0], d.Kept[1] = d.Kept[1], d.Kept[0] }, false},
		{"one name twice", func(d *impl.Disk) { d.Kept[1].Name = "a" }, false},
		{"one Id twice", func(d *impl.Disk) { d.Kept[0].Id = 2 }, false},
		{"an Id without a file", func(d *impl.Disk) { d.Kept[0].Id = 4 }, false},
		{"an Id of a turn", func(d *impl.Disk) { d.Kept[0].Id = 8 }, false},
		{"an Id missing", func(d *impl.Disk) { d.Kept = d.Kept[:3] }, false},
		{"an Id more", func(d *impl.Disk) { d.Kept = append(d.Kept, impl.Link{Name: "e", Id: 9}) }, false},
		{"a file with two links", func(d *impl.Disk) { d.Kept = append(d.Kept, impl.Link{Name: "e", Id: 2}) }, false},
		{"no turns", func(d *impl.Disk) { d.Turns = nil; d.Files = d.Files[:4] }, true},
		{"no turns but their files", func(d *impl.Disk) { d.Turns = nil }, false},
	})
	checkDiskOk(t, func() impl.Disk { return keptFiles(2) }, []diskCase{
		{"a prefix", func(d *impl.Disk) { d.Kept[1].Name = "a." }, true},
		{"longest name", func(d *impl.Disk) { d.Kept[1].Name = strings.Repeat("b", impl.MaxName) }, true},
		{"longer name", func(d *impl.Disk) { d.Kept[1].Name = strings.Repeat("b", impl.MaxName+1) }, false},
		{"longer name first", func(d *impl.Disk) { d.Kept[0].Name = "bb" }, false},
		{"one name twice", func(d *impl.Disk) { d.Kept[1].Name = "a" }, false},
		{"ids not in order", func(d *impl.Disk) { d.Kept[0].Id, d.Kept[1].Id = 2, 1 }, true},
	})
}

func TestDiskOkOfTurns(t *testing.T) {
	turn := func(i int, change func(turn *impl.Turn)) func(d *impl.Disk) {
		return func(d *impl.Disk) { change(&d.Turns[i]) }
	}
	last := func(turn impl.Turn) func(d *impl.Disk) {
		return func(d *impl.Disk) { d.Turns = append(d.Turns, turn) }
	}
	checkDiskOk(t, sampleDisk, []diskCase{
		{"kind 0", last(impl.Turn{Name: "b"}), false},
		{"kind append", last(impl.Turn{Kind: impl.DiAppend, Name: "b"}), false},
		{"kind sync", last(impl.Turn{Kind: impl.DiSync, Name: "b"}), false},
		{"kind sync of the directory", last(impl.Turn{Kind: impl.DiSyncDir}), false},
		{"kind 7", last(impl.Turn{Kind: 7, Name: "b"}), false},
		{"kind -1", last(impl.Turn{Kind: -1, Name: "b"}), false},
		{"create with To", turn(0, func(x *impl.Turn) { x.To = "x" }), false},
		{"rename with Id", turn(1, func(x *impl.Turn) { x.Id = 7 }), false},
		{"remove with To", turn(2, func(x *impl.Turn) { x.To = "x" }), false},
		{"remove with Id", turn(2, func(x *impl.Turn) { x.Id = 2 }), false},
		{"create without name", turn(0, func(x *impl.Turn) { x.Name = "" }), false},
		{"create of no name", turn(0, func(x *impl.Turn) { x.Name = "A" }), false},
		{"rename to no name", turn(1, func(x *impl.Turn) { x.To = "Z" }), false},
		{"rename to nothing", turn(1, func(x *impl.Turn) { x.To = "" }), false},
		{"rename to a long name", turn(1, func(x *impl.Turn) { x.To = strings.Repeat("z", impl.MaxName+1) }), false},
		{"rename to the longest name", turn(1, func(x *impl.Turn) { x.To = strings.Repeat("z", impl.MaxName) }), true},
		{"create of a kept name", turn(0, func(x *impl.Turn) { x.Name = "a" }), false},
		{"create of a name of a turn", turn(4, func(x *impl.Turn) { x.Name = "z" }), false},
		{"create of a name that was renamed", turn(4, func(x *impl.Turn) { x.Name = "a" }), true},
		{"create of a replaced name", turn(4, func(x *impl.Turn) { x.Name = "d" }), false},
		{"create of an Id without a file", turn(4, func(x *impl.Turn) { x.Id = 9 }), false},
		{"create of Id 0", turn(4, func(x *impl.Turn) { x.Id = 0 }), false},
		{"create of a kept Id", turn(4, func(x *impl.Turn) { x.Id = 2 }), false},
		{"create of one Id twice", turn(4, func(x *impl.Turn) { x.Id = 11 }), false},
		{"rename of a missing name", last(renameTurn("a", "x")), false},
		{"rename onto itself", last(renameTurn("b", "b")), false},
		{"rename onto another", last(renameTurn("b", "0")), true},
		{"rename of a new name", last(renameTurn("z", "a")), true},
		{"rename of a removed name", turn(3, func(x *impl.Turn) { x.Name = "b" }), false},
		{"remove of a missing name", last(impl.Turn{Kind: impl.DiRemove, Name: "a"}), false},
		{"remove of a name that was renamed over", last(impl.Turn{Kind: impl.DiRemove, Name: "d"}), true},
		{"remove twice", func(d *impl.Disk) { d.Turns[4] = d.Turns[2]; d.Files = slices.Delete(d.Files, 4, 5) }, false},
		{"a turn less", func(d *impl.Disk) { d.Turns = d.Turns[:4] }, false},
		{"a turn and its file less", func(d *impl.Disk) { d.Turns = d.Turns[:4]; d.Files = slices.Delete(d.Files, 4, 5) }, true},
		{"turns in another order", func(d *impl.Disk) { slices.Reverse(d.Turns) }, false},
	})
}

func renameTurn(name, to string) impl.Turn {
	return impl.Turn{Kind: impl.DiRename, Name: name, To: to}
}

func TestDiskNew(t *testing.T) {
	for _, room := range []int{0, 1, 1000, impl.MaxDisk - 1, impl.MaxDisk} {
		d, ok := impl.DiskNew(room)
		if !ok || !impl.DiskOk(d) {
			t.Errorf("DiskNew(%d) = %+v, %v", room, d, ok)
		}
		wantDisk(t, "DiskNew", d, impl.Disk{Room: room, Fuse: -1, Next: 1})
	}
	for _, room := range []int{-1, math.MinInt, impl.MaxDisk + 1, math.MaxInt} {
		d, ok := impl.DiskNew(room)
		if ok {
			t.Errorf("DiskNew(%d) returns true", room)
		}
		wantDisk(t, "DiskNew of no room", d, impl.Disk{})
	}
}

// invalidDisks are disks for which every function but DiskOk returns zero values.
func invalidDisks() []impl.Disk {
	list := []impl.Disk{{}, keptFiles(impl.MaxFiles + 1), fullTurns(impl.MaxTurns + 1)}
	for _, change := range []func(d *impl.Disk){
		func(d *impl.Disk) { d.Room = 22 },
		func(d *impl.Disk) { d.Fuse = -2 },
		func(d *impl.Disk) { d.Next = 11 },
		func(d *impl.Disk) { d.Files[0].Safe = 4 },
		func(d *impl.Disk) { d.Files = nil },
		func(d *impl.Disk) { d.Kept = nil },
		func(d *impl.Disk) { d.Kept[0].Id = 9 },
		func(d *impl.Disk) { d.Turns = d.Turns[1:] },
		func(d *impl.Disk) { d.Turns[0].Kind = 0 },
	} {
		d := sampleDisk()
		change(&d)
		list = append(list, d)
	}
	return list
}

func TestInvalidDisksAreRejected(t *testing.T) {
	for i, d := range invalidDisks() {
		if impl.DiskOk(d) {
			t.Fatalf("disk %d is valid", i)
		}
		if dir := impl.DiskDir(d); dir != nil {
			t.Errorf("disk %d: DiskDir = %v", i, dir)
		}
		for _, name := range []string{"a", "b", "0", "z", ""} {
			if b, ok := impl.DiskRead(d, name); b != nil || ok {
				t.Errorf("disk %d: DiskRead of %q = %q, %v", i, name, b, ok)
			}
		}
		for _, op := range []impl.DiskOp{opCreate("x"), opSync("z"), opSyncDir(), {}} {
			wantDo(t, d, op, impl.Disk{}, 1)
		}
		if e, ok := impl.DiskCrash(d, 3, []int{1}); ok || !sameDisk(e, impl.Disk{}) {
			t.Errorf("disk %d: DiskCrash = %+v, %v", i, e, ok)
		}
		if e, ok := impl.DiskSet(d, impl.MaxDisk, -1); ok || !sameDisk(e, impl.Disk{}) {
			t.Errorf("disk %d: DiskSet = %+v, %v", i, e, ok)
		}
	}
}

func TestDiskDirAndDiskRead(t *testing.T) {
	d := sampleDisk()
	if got := impl.DiskDir(d); !slices.Equal(got, sampleDir) {
		t.Errorf("DiskDir = %v", got)
	}
	want := map[string]string{"0": "eleven", "b": "", "d": "three", "z": "seven"}
	for _, name := range []string{"0", "a", "b", "c", "d", "z", "", "A", "00", strings.Repeat("a", 100)} {
		text, exists := want[name]
		if b, ok := impl.DiskRead(d, name); string(b) != text || ok != exists || !exists && b != nil {
			t.Errorf("DiskRead of %q = %q, %v", name, b, ok)
		}
	}
	d.Fuse = 0 // reading needs no power
	if b, ok := impl.DiskRead(d, "d"); string(b) != "three" || !ok || len(impl.DiskDir(d)) != 4 {
		t.Error("a disk with Fuse 0 cannot be read")
	}
	empty, _ := impl.DiskNew(5)
	if b, ok := impl.DiskRead(empty, "a"); b != nil || ok || len(impl.DiskDir(empty)) != 0 {
		t.Error("an empty disk contains something")
	}
}

func TestDiskDirIsInOrder(t *testing.T) {
	d, _ := impl.DiskNew(0)
	for _, name := range []string{"b", "a.", "9", "a", ".", "zz", "aa", "ab", "z", "0"} {
		d, _ = impl.DiskDo(d, opCreate(name))
	}
	want := []string{".", "0", "9", "a", "a.", "aa", "ab", "b", "z", "zz"}
	// Several times, since the order of a map changes from one visit to the next.
	for range 50 {
		var got []string
		for _, link := range impl.DiskDir(d) {
			got = append(got, link.Name)
		}
		if !slices.Equal(got, want) {
			t.Fatalf("DiskDir has the names %q", got)
		}
		e, _ := impl.DiskDo(d, opSyncDir())
		if !slices.Equal(e.Kept, impl.DiskDir(d)) {
			t.Fatalf("Kept is %v", e.Kept)
		}
	}
}

func TestDiskOpOk(t *testing.T) {
	longest := strings.Repeat("n", impl.MaxName)
	longer := longest + "n"
	for _, c := range []struct {
		op   impl.DiskOp
		want bool
	}{
		{opCreate("a"), true}, {opSync("a"), true}, {opRemove("a"), true}, {opSyncDir(), true}, {opAppend("a", "x"), true}, {opRename("a", "b"), true},
		{opCreate(longest), true}, {opSync(longest), true}, {opRemove(longest), true}, {opAppend(longest, ""), true}, {opRename(longest, longest), true},
		{opCreate(longer), false}, {opSync(longer), false}, {opRemove(longer), false}, {opAppend(longer, "x"), false}, {opRename(longer, "a"), false}, {opRename("a", longer), false},
		{opCreate(""), false}, {opSync(""), false}, {opRemove(""), false}, {opAppend("", "x"), false}, {opRename("", "a"), false}, {opRename("a", ""), false},
		{opCreate("A"), false}, {opSync("a b"), false}, {opRemove("a/b"), false}, {opAppend("_", "x"), false}, {opRename("ä", "a"), false}, {opRename("a", "-"), false},
		{impl.DiskOp{}, false}, {impl.DiskOp{Name: "a"}, false}, {impl.DiskOp{Kind: 7, Name: "a"}, false}, {impl.DiskOp{Kind: 7}, false},
		{impl.DiskOp{Kind: -1, Name: "a"}, false}, {impl.DiskOp{Kind: math.MinInt}, false},
		{impl.DiskOp{Kind: impl.DiSyncDir, Name: "a"}, false},
		{impl.DiskOp{Kind: impl.DiSyncDir, Name: "A"}, false},
		{impl.DiskOp{Kind: impl.DiSyncDir, To: "a"}, false},
		{impl.DiskOp{Kind: impl.DiSyncDir, Data: []byte("x")}, false},
		{impl.DiskOp{Kind: impl.DiSyncDir, Data: []byte{}}, true},
		{impl.DiskOp{Kind: impl.DiCreate, Name: "a", To: "b"}, false},
		{impl.DiskOp{Kind: impl.DiCreate, Name: "a", Data: []byte("x")}, false},
		{impl.DiskOp{Kind: impl.DiAppend, Name: "a", To: "b", Data: []byte("x")}, false},
		{impl.DiskOp{Kind: impl.DiSync, Name: "a", To: "b"}, false},
		{impl.DiskOp{Kind: impl.DiSync, Name: "a", Data: []byte("x")}, false},
		{impl.DiskOp{Kind: impl.DiRename, Name: "a", To: "b", Data: []byte("x")}, false},
		{impl.DiskOp{Kind: impl.DiRemove, Name: "a", To: "b"}, false},
		{impl.DiskOp{Kind: impl.DiRemove, Name: "a", Data: []byte("x")}, false},
		{impl.DiskOp{Kind: impl.DiAppend, Name: "a"}, true},
		{impl.DiskOp{Kind: impl.DiAppend, Name: "a", Data: make([]byte, impl.MaxDisk)}, true},
		{impl.DiskOp{Kind: impl.DiAppend, Name: "a", Data: make([]byte, impl.MaxDisk+1)}, false},
	} {
		if impl.DiskOpOk(c.op) != c.want {
			t.Errorf("DiskOpOk of kind %d, %q, %q, %d bytes = %v", c.op.Kind, c.op.Name, c.op.To, len(c.op.Data), !c.want)
		}
		if _, code := impl.DiskDo(keptFiles(3), c.op); (code == 1) == c.want {
			t.Errorf("DiskDo of kind %d, %q, %q, %d bytes: code %d", c.op.Kind, c.op.Name, c.op.To, len(c.op.Data), code)
		}
	}
	wantDo(t, sampleDisk(), impl.DiskOp{}, impl.Disk{}, 1)
}

// changedSample returns the sample disk with one operation less and with a change.
func changedSample(change func(d *impl.Disk)) impl.Disk {
	d := sampleDisk()
	d.Fuse--
	change(&d)
	return d
}

func TestDiskDoExecutes(t *testing.T) {
	wantDo(t, sampleDisk(), opCreate("c"), changedSample(func(d *impl.Disk) {
		d.Files = append(d.Files, impl.File{Id: 12})
		d.Turns = append(d.Turns, impl.Turn{Kind: impl.DiCreate, Name: "c", Id: 12})
		d.Next = 13
	}), 0)
	wantDo(t, sampleDisk(), opAppend("d", "\x00x"), changedSample(func(d *impl.Disk) { d.Files[1].Body = []byte("three\x00x") }), 0)
	wantDo(t, sampleDisk(), opAppend("d", ""), changedSample(func(d *impl.Disk) {}), 0)
	wantDo(t, sampleDisk(), opSync("d"), changedSample(func(d *impl.Disk) { d.Files[1].Safe = 5 }), 0)
	wantDo(t, sampleDisk(), opSync("b"), changedSample(func(d *impl.Disk) {}), 0)
	wantDo(t, sampleDisk(), opRename("z", "a"), changedSample(func(d *impl.Disk) { d.Turns = append(d.Turns, renameTurn("z", "a")) }), 0)
	wantDo(t, sampleDisk(), opRename("z", "d"), changedSample(func(d *impl.Disk) { d.Turns = append(d.Turns, renameTurn("z", "d")) }), 0)
	wantDo(t, sampleDisk(), opRemove("0"), changedSample(func(d *impl.Disk) {
		d.Turns = append(d.Turns, impl.Turn{Kind: impl.DiRemove, Name: "0"})
	}), 0)
	wantDo(t, sampleDisk(), opSyncDir(), changedSample(func(d *impl.Disk) {
		d.Files = []impl.File{d.Files[1], d.Files[3], d.Files[4], d.Files[5]}
		d.Kept = sampleDir
		d.Turns = nil
	}), 0)
}

func TestAppendsThatFitAndThatDoNot(t *testing.T) {
	d := sampleDisk() // with 17 bytes of room left
	data := "0123456789abcdefghij"
	for size := range len(data) + 1 {
		fits, code := min(size, 17), 0
		if size > 17 {
			code = 5
		}
		wantDo(t, d, opAppend("z", data[:size]), changedSample(func(d *impl.Disk) { d.Files[3].Body = []byte("seven" + data[:fits]) }), code)
	}
	d.Room = 23
	wantDo(t, d, opAppend("b", ""), changedSample(func(d *impl.Disk) { d.Room = 23 }), 0)
	wantDo(t, d, opAppend("b", "x"), changedSample(func(d *impl.Disk) { d.Room = 23 }), 5)
	huge := impl.DiskOp{Kind: impl.DiAppend, Name: "a", Data: bytes.Repeat([]byte{7}, impl.MaxDisk)}
	e := keptFiles(2)
	e.Room = impl.MaxDisk
	e, code := impl.DiskDo(e, huge)
	if code != 0 || len(e.Files[0].Body) != impl.MaxDisk || !impl.DiskOk(e) {
		t.Errorf("an append of MaxDisk bytes: code %d", code)
	}
	wantRefused(t, e, impl.DiskOp{Kind: impl.DiAppend, Name: "b", Data: huge.Data}, 5)
}

func TestFuse(t *testing.T) {
	ops := []impl.DiskOp{opCreate("c"), opAppend("d", "x"), opAppend("d", strings.Repeat("x", 30)), opSync("d"), opRename("z", "d"), opRemove("0"), opSyncDir()}
	for _, op := range ops {
		for _, c := range [][2]int{{-1, -1}, {1, 0}, {2, 1}, {impl.MaxFuse, impl.MaxFuse - 1}} {
			d := sampleDisk()
			d.Fuse = c[0]
			e, code := impl.DiskDo(d, op)
			if code != 0 && code != 5 || e.Fuse != c[1] || !impl.DiskOk(e) {
				t.Errorf("%+v with Fuse %d: code %d and Fuse %d", op, c[0], code, e.Fuse)
			}
		}
		d := sampleDisk()
		d.Fuse = 0
		wantRefused(t, d, op, 2)
	}
}

func TestRefusedOperationsChangeNothing(t *testing.T) {
	for _, op := range []impl.DiskOp{
		opCreate("0"), opCreate("b"), opCreate("d"), opCreate("z"),
		opAppend("a", "x"), opSync("c"), opRename("a", "x"), opRemove("c"), opRename("x", "z"), opSync("x"),
	} {
		wantRefused(t, sampleDisk(), op, 3)
	}
	wantRefused(t, sampleDisk(), opRename("z", "z"), 4)
	files := keptFiles(impl.MaxFiles)
	wantRefused(t, files, opCreate("x"), 4)
	files, _ = impl.DiskDo(files, opRemove("a"))
	wantRefused(t, files, opCreate("x"), 4) // the removed file is there until the directory is durable
	files, _ = impl.DiskDo(files, opSyncDir())
	if _, code := impl.DiskDo(files, opCreate("x")); code != 0 {
		t.Errorf("no file can be created after one was deleted: code %d", code)
	}
	turns := fullTurns(impl.MaxTurns)
	for _, op := range []impl.DiskOp{opCreate("x"), opRename("a", "x"), opRemove("a")} {
		wantRefused(t, turns, op, 4)
		if _, code := impl.DiskDo(fullTurns(impl.MaxTurns-2), op); code != 0 {
			t.Errorf("%+v with MaxTurns - 2 turns: code %d", op, code)
		}
	}
	for _, op := range []impl.DiskOp{opAppend("a", "x"), opSync("a"), opSyncDir()} {
		if _, code := impl.DiskDo(turns, op); code != 0 {
			t.Errorf("%+v with MaxTurns turns: code %d", op, code)
		}
	}
	if e, code := impl.DiskDo(fullTurns(impl.MaxTurns-1), opRemove("b")); code != 0 || len(e.Turns) != impl.MaxTurns || !impl.DiskOk(e) {
		t.Errorf("the last turn: code %d", code)
	}
	last := keptFiles(1)
	last.Next = impl.MaxId - 1
	last, code := impl.DiskDo(last, opCreate("x"))
	if code != 0 || last.Next != impl.MaxId || last.Files[1].Id != impl.MaxId-1 || !impl.DiskOk(last) {
		t.Errorf("the last Id: code %d", code)
	}
	wantRefused(t, last, opCreate("y"), 4)
	for _, op := range []impl.DiskOp{opRename("a", "y"), opRemove("a"), opSyncDir(), opAppend("a", "x"), opSync("a")} {
		if _, code := impl.DiskDo(last, op); code != 0 {
			t.Errorf("%+v without an Id left: code %d", op, code)
		}
	}
}

func TestOrderOfTheCodes(t *testing.T) {
	dark := func(d impl.Disk) impl.Disk { d.Fuse = 0; return d }
	files, turns := keptFiles(impl.MaxFiles), fullTurns(impl.MaxTurns)
	ids := keptFiles(1)
	ids.Next = impl.MaxId
	full := keptFiles(1)
	full.Room = 0
	for _, c := range []struct {
		d    impl.Disk
		op   impl.DiskOp
		want int
	}{
		{dark(files), opCreate("x"), 2}, {dark(files), opCreate("a"), 2}, {dark(files), opRemove("x"), 2},
		{dark(turns), opRemove("a"), 2}, {dark(turns), opRename("a", "a"), 2}, {dark(ids), opCreate("x"), 2},
		{dark(full), opAppend("a", "x"), 2}, {dark(full), opAppend("x", "x"), 2}, {dark(full), opSync("x"), 2}, {dark(full), opSyncDir(), 2},
		{files, opCreate("a"), 3}, {turns, opCreate("a"), 3}, {ids, opCreate("a"), 3},
		{turns, opRename("x", "a"), 3}, {turns, opRemove("x"), 3}, {full, opRename("x", "x"), 3}, {full, opAppend("x", "x"), 3},
		{turns, opRename("a", "a"), 4}, {files, opRename("a", "a"), 4}, {full, opAppend("a", "x"), 5},
	} {
		wantRefused(t, c.d, c.op, c.want) // the full disk has no byte left and no fuse, so that it is unchanged with the code 5
	}
	broken := dark(files)
	broken.Room = -1
	wantDo(t, broken, opCreate("a"), impl.Disk{}, 1)
	wantDo(t, dark(files), opCreate("A"), impl.Disk{}, 1)
	wantDo(t, dark(files), impl.DiskOp{Kind: impl.DiSyncDir, Name: "x"}, impl.Disk{}, 1)
	wantDo(t, turns, impl.DiskOp{Kind: impl.DiRename, Name: "a", To: "a", Data: []byte("x")}, impl.Disk{}, 1)
	wantDo(t, full, impl.DiskOp{Kind: impl.DiAppend, Name: "x", Data: make([]byte, impl.MaxDisk+1)}, impl.Disk{}, 1)
}

func TestFilesWithoutALinkTakeRoomUntilTheDirectoryIsDurable(t *testing.T) {
	d, _ := impl.DiskNew(10)
	for _, op := range []impl.DiskOp{opCreate("a"), opAppend("a", "123456"), opCreate("b"), opAppend("b", "789"), opRename("b", "a")} {
		d, _ = impl.DiskDo(d, op)
	}
	if len(d.Files) != 2 {
		t.Errorf("a replaced file is gone at once: %+v", d)
	}
	e, code := impl.DiskDo(d, opAppend("a", "xy"))
	if got, _ := impl.DiskRead(e, "a"); code != 5 || string(got) != "789x" {
		t.Errorf("an append beside a replaced file: code %d, %q", code, got)
	}
	d, _ = impl.DiskDo(d, opSyncDir())
	wantDisk(t, "DiSyncDir", d, impl.Disk{
		Room: 10, Fuse: -1, Next: 3,
		Files: []impl.File{{Id: 2, Body: []byte("789")}},
		Kept:  []impl.Link{{Name: "a", Id: 2}},
	})
	d, code = impl.DiskDo(d, opAppend("a", "0123456"))
	if got, _ := impl.DiskRead(d, "a"); code != 0 || string(got) != "7890123456" {
		t.Errorf("an append that fits exactly: code %d, %q", code, got)
	}
	d, _ = impl.DiskDo(d, opRemove("a"))
	d, _ = impl.DiskDo(d, opSyncDir())
	wantDisk(t, "DiSyncDir of nothing", d, impl.Disk{Room: 10, Fuse: -1, Next: 3})
}

func TestDiskCrashTurns(t *testing.T) {
	all := []int{math.MaxInt}
	dirs := []map[string]string{
		{"a": "seven", "b": "two", "c": "three", "d": "five"},
		{"0": "eleven", "a": "seven", "b": "two", "c": "three", "d": "five"},
		{"0": "eleven", "z": "seven", "b": "two", "c": "three", "d": "five"},
		{"0": "eleven", "z": "seven", "c": "three", "d": "five"},
		{"0": "eleven", "z": "seven", "d": "three"},
		{"0": "eleven", "z": "seven", "d": "three", "b": ""},
	}
	for _, turns := range []int{math.MinInt, -1, 0, 1, 2, 3, 4, 5, 6, 31, math.MaxInt} {
		e, ok := impl.DiskCrash(sampleDisk(), turns, all)
		want := dirs[max(0, min(turns, 5))]
		if !ok || !impl.DiskOk(e) || len(e.Turns) != 0 || e.Fuse != -1 || e.Room != 40 || e.Next != 12 || len(e.Kept) != len(want) || len(e.Files) != len(want) {
			t.Errorf("DiskCrash with %d turns = %+v, %v", turns, e, ok)
		}
		for name, text := range want {
			if b, ok := impl.DiskRead(e, name); !ok || string(b) != text {
				t.Errorf("with %d turns, %q contains %q, %v", turns, name, b, ok)
			}
		}
	}
}

func TestDiskCrashCuts(t *testing.T) {
	// With all turns, the files left have 5 bytes of which 2 are safe, 5 of 4, 0 of 0 and 6 of 6.
	for _, c := range []struct {
		cuts []int
		want []string
	}{
		{nil, []string{"th", "seve", "", "eleven"}},
		{[]int{}, []string{"th", "seve", "", "eleven"}},
		{[]int{0}, []string{"th", "seve", "", "eleven"}},
		{[]int{-1}, []string{"th", "seve", "", "eleven"}},
		{[]int{math.MinInt}, []string{"th", "seve", "", "eleven"}},
		{[]int{1}, []string{"thr", "seven", "", "eleven"}},
		{[]int{2, 0}, []string{"thre", "seve", "", "eleven"}},
		{[]int{0, 1}, []string{"th", "seven", "", "eleven"}},
		{[]int{3, -5, 7}, []string{"three", "seve", "", "eleven"}},
		{[]int{4, 2, 2, 2}, []string{"three", "seven", "", "eleven"}},
		{[]int{math.MaxInt}, []string{"three", "seven", "", "eleven"}},
		{[]int{1, 0, 9, 9, 9, 9, 9}, []string{"thr", "seve", "", "eleven"}},
	} {
		e, ok := impl.DiskCrash(sampleDisk(), 5, c.cuts)
		want := impl.Disk{Room: 40, Fuse: -1, Next: 12, Kept: sampleDir}
		for i, id := range []int{3, 7, 8, 11} {
			want.Files = append(want.Files, impl.File{Id: id, Body: []byte(c.want[i]), Safe: len(c.want[i])})
		}
		if !ok {
			t.Errorf("DiskCrash with the cuts %v returns false", c.cuts)
		}
		wantDisk(t, fmt.Sprintf("DiskCrash with the cuts %v", c.cuts), e, want)
	}
	// A cut belongs to the position of a file among those that remain, and the cuts are repeated.
	d := keptFiles(5)
	d.Room = 100
	for i := range d.Files {
		d.Files[i].Body = []byte("0123456789")
	}
	d, _ = impl.DiskDo(d, opRemove("b"))
	e, _ := impl.DiskCrash(d, 1, []int{7, 1, 3})
	for i, want := range []impl.File{{Id: 1, Safe: 7}, {Id: 3, Safe: 1}, {Id: 4, Safe: 3}, {Id: 5, Safe: 7}} {
		want.Body = []byte("0123456789")[:want.Safe]
		if !sameFile(e.Files[i], want) {
			t.Errorf("file %d is %+v", i, e.Files[i])
		}
	}
}

func TestDiskCrashOfFusesAndEmptyDisks(t *testing.T) {
	for _, fuse := range []int{-1, 0, 1, impl.MaxFuse} {
		d, _ := impl.DiskNew(7)
		d.Fuse = fuse
		e, ok := impl.DiskCrash(d, 3, []int{1, 2})
		if !ok {
			t.Errorf("DiskCrash with Fuse %d returns false", fuse)
		}
		wantDisk(t, "DiskCrash of an empty disk", e, impl.Disk{Room: 7, Fuse: -1, Next: 1})
	}
}

func TestDiskSet(t *testing.T) {
	for _, c := range []struct {
		room, fuse int
		want       bool
	}{
		{40, 5, true}, {23, -1, true}, {23, 0, true}, {impl.MaxDisk, impl.MaxFuse, true},
		{22, -1, false}, {0, -1, false}, {-1, -1, false}, {impl.MaxDisk + 1, -1, false}, {math.MinInt, 0, false}, {math.MaxInt, 0, false},
		{40, -2, false}, {40, impl.MaxFuse + 1, false}, {40, math.MinInt, false}, {40, math.MaxInt, false},
	} {
		for _, fuse := range []int{-1, 0, 5} {
			d := sampleDisk()
			d.Fuse = fuse
			got, ok := impl.DiskSet(d, c.room, c.fuse)
			want := impl.Disk{}
			if c.want {
				want = sampleDisk()
				want.Room, want.Fuse = c.room, c.fuse
			}
			if ok != c.want {
				t.Errorf("DiskSet(%d, %d) returns %v", c.room, c.fuse, ok)
			}
			wantDisk(t, "DiskSet", got, want)
		}
	}
	for _, change := range []func(d *impl.Disk){
		func(d *impl.Disk) { d.Room = 22 },
		func(d *impl.Disk) { d.Room = -1 },
		func(d *impl.Disk) { d.Fuse = -2 },
		func(d *impl.Disk) { d.Fuse = impl.MaxFuse + 1 },
	} {
		d := sampleDisk()
		change(&d)
		if got, ok := impl.DiskSet(d, 40, 5); ok || !sameDisk(got, impl.Disk{}) {
			t.Errorf("DiskSet mends an invalid disk: %+v", got)
		}
	}
}

// spareDisk returns the disk with spare capacity behind every slice, filled with something else.
func spareDisk(d impl.Disk) impl.Disk {
	for i := range d.Files {
		d.Files[i].Body, _ = withSpare(string(d.Files[i].Body))
	}
	d.Files = append(d.Files, make([]impl.File, 9)...)[:len(d.Files)]
	d.Kept = append(d.Kept, make([]impl.Link, 9)...)[:len(d.Kept)]
	d.Turns = append(d.Turns, make([]impl.Turn, 9)...)[:len(d.Turns)]
	scribbleSpare(d)
	return d
}

func scribbleSpare(d impl.Disk) {
	for i := len(d.Files); i < cap(d.Files); i++ {
		d.Files[:cap(d.Files)][i] = impl.File{Id: 77, Safe: 77}
	}
	for i := len(d.Kept); i < cap(d.Kept); i++ {
		d.Kept[:cap(d.Kept)][i] = impl.Link{Name: "spare", Id: 77}
	}
	for i := len(d.Turns); i < cap(d.Turns); i++ {
		d.Turns[:cap(d.Turns)][i] = impl.Turn{Kind: 77, Name: "spare"}
	}
}

// wholeDisk returns a copy of the disk with what is in the spare capacity of its slices.
func wholeDisk(d impl.Disk) impl.Disk {
	d.Files = d.Files[:cap(d.Files)]
	d.Kept = d.Kept[:cap(d.Kept)]
	d.Turns = d.Turns[:cap(d.Turns)]
	d = deepDisk(d)
	for i := range d.Files {
		body := d.Files[i].Body
		d.Files[i].Body = bytes.Clone(body[:cap(body)])
	}
	return d
}

// diskResults calls every function that returns slices of a disk.
func diskResults(d impl.Disk, data []byte, cuts []int) []impl.Disk {
	var list []impl.Disk
	ops := []impl.DiskOp{
		opCreate("c"), opSync("d"), opRename("z", "d"), opRename("z", "x"), opRemove("0"), opSyncDir(),
		{Kind: impl.DiAppend, Name: "z", Data: data}, {Kind: impl.DiAppend, Name: "b", Data: data},
		opCreate("b"), opSync("a"), opRename("z", "z"), {Kind: 9},
	}
	for _, op := range ops {
		e, _ := impl.DiskDo(d, op)
		list = append(list, e)
	}
	dark := d
	dark.Fuse = 0
	e, _ := impl.DiskDo(dark, opSync("d"))
	list = append(list, e)
	for _, turns := range []int{0, 3, 5} {
		e, _ := impl.DiskCrash(d, turns, cuts)
		f, _ := impl.DiskCrash(d, turns, nil)
		list = append(list, e, f)
	}
	e, _ = impl.DiskSet(d, 50, 3)
	f, _ := impl.DiskSet(d, 3, 3)
	g := impl.Disk{Kept: impl.DiskDir(d)}
	for _, name := range []string{"0", "b", "d", "z", "x"} {
		body, _ := impl.DiskRead(d, name)
		g.Files = append(g.Files, impl.File{Body: body})
	}
	return append(list, e, f, g)
}

// scribble overwrites everything that a disk can reach, with the spare capacity.
func scribble(d impl.Disk) {
	for _, file := range d.Files {
		body := file.Body[:cap(file.Body)]
		for i := range body {
			body[i] = '#'
		}
	}
	for i := range d.Files[:cap(d.Files)] {
		d.Files[:cap(d.Files)][i] = impl.File{Id: 99, Safe: 99}
	}
	for i := range d.Kept[:cap(d.Kept)] {
		d.Kept[:cap(d.Kept)][i] = impl.Link{Name: "scribble", Id: 99}
	}
	for i := range d.Turns[:cap(d.Turns)] {
		d.Turns[:cap(d.Turns)][i] = impl.Turn{Kind: 99, Name: "scribble"}
	}
}

func TestDiskFunctionsLeaveTheirArgumentsAlone(t *testing.T) {
	d := spareDisk(sampleDisk())
	data, allData := withSpare("data and more data")
	cuts := append([]int{2, 0, 1}, 55, 55)[:3]
	disk, bytesBefore := wholeDisk(d), bytes.Clone(allData)
	unchanged := func(when string) {
		t.Helper()
		wantDisk(t, when, wholeDisk(d), disk)
		if !bytes.Equal(allData, bytesBefore) || !slices.Equal(cuts[:5], []int{2, 0, 1, 55, 55}) {
			t.Errorf("%s: the data or the cuts are changed: %q, %v", when, allData, cuts[:5])
		}
	}
	results := diskResults(d, data, cuts)
	unchanged("after the calls")
	again := diskResults(d, data, cuts)
	for i := range results {
		wantDisk(t, "a result that is computed again", again[i], results[i])
	}
	for _, e := range results {
		scribble(e)
	}
	unchanged("after the results were overwritten")
	third := diskResults(d, data, cuts)
	scribble(d)
	clear(allData)
	clear(cuts)
	for i := range third {
		wantDisk(t, "a result after the arguments were overwritten", third[i], again[i])
	}
}

func TestSlicesOfOneDiskShareNothing(t *testing.T) {
	for n, e := range diskResults(sampleDisk(), []byte("data"), []int{1}) {
		for i := range e.Files {
			want := deepDisk(e)
			body := e.Files[i].Body
			for k := range body[:cap(body)] {
				body[:cap(body)][k] ^= 255
			}
			for k := range want.Files[i].Body {
				want.Files[i].Body[k] ^= 255
			}
			wantDisk(t, fmt.Sprintf("result %d after its file %d was overwritten", n, i), e, want)
		}
	}
	// Bodies of an argument may lie in one array: growing one must not reach the next.
	all := []byte("onetwo")
	d := keptFiles(2)
	d.Files[0].Body, d.Files[1].Body = all[:3], all[3:]
	e, _ := impl.DiskDo(d, opAppend("a", "XYZ"))
	one, _ := impl.DiskRead(e, "a")
	two, _ := impl.DiskRead(e, "b")
	if string(one) != "oneXYZ" || string(two) != "two" || string(all) != "onetwo" {
		t.Errorf("an append reaches another file: %q, %q, %q", one, two, all)
	}
}

// modelFile and diskModel are a second description of a disk: it keeps the directory after each turn instead of the turns.
type modelFile struct {
	id   int
	body string
	safe int
}

type diskModel struct {
	room, fuse, next int
	files            []*modelFile
	dirs             []map[string]*modelFile
}

func newDiskModel(room int) *diskModel {
	return &diskModel{room: room, fuse: -1, next: 1, dirs: []map[string]*modelFile{{}}}
}

func (m *diskModel) dir() map[string]*modelFile { return m.dirs[len(m.dirs)-1] }

func (m *diskModel) turn(change func(dir map[string]*modelFile)) {
	dir := map[string]*modelFile{}
	for name, file := range m.dir() {
		dir[name] = file
	}
	change(dir)
	m.dirs = append(m.dirs, dir)
}

func (m *diskModel) code(op impl.DiskOp) int {
	_, exists := m.dir()[op.Name]
	turns := len(m.dirs) - 1
	if m.fuse == 0 {
		return 2
	}
	switch op.Kind {
	case impl.DiCreate:
		if exists {
			return 3
		}
		if len(m.files) == impl.MaxFiles || m.next == impl.MaxId || turns == impl.MaxTurns {
			return 4
		}
	case impl.DiRename, impl.DiRemove:
		if !exists {
			return 3
		}
		if turns == impl.MaxTurns || op.Name == op.To {
			return 4
		}
	case impl.DiAppend, impl.DiSync:
		if !exists {
			return 3
		}
	}
	return 0
}

func (m *diskModel) do(op impl.DiskOp) int {
	if code := m.code(op); code != 0 {
		return code
	}
	m.fuse = max(m.fuse-1, min(m.fuse, 0))
	file := m.dir()[op.Name]
	switch op.Kind {
	case impl.DiCreate:
		file := &modelFile{id: m.next}
		m.next++
		m.files = append(m.files, file)
		m.turn(func(dir map[string]*modelFile) { dir[op.Name] = file })
	case impl.DiAppend:
		left := m.room
		for _, f := range m.files {
			left -= len(f.body)
		}
		if len(op.Data) > left {
			file.body += string(op.Data[:left])
			return 5
		}
		file.body += string(op.Data)
	case impl.DiSync:
		file.safe = len(file.body)
	case impl.DiRename:
		m.turn(func(dir map[string]*modelFile) { delete(dir, op.Name); dir[op.To] = file })
	case impl.DiRemove:
		m.turn(func(dir map[string]*modelFile) { delete(dir, op.Name) })
	case impl.DiSyncDir:
		m.settle(m.dir())
	}
	return 0
}

func (m *diskModel) settle(dir map[string]*modelFile) {
	var left []*modelFile
	for _, file := range m.files {
		for _, linked := range dir {
			if linked == file {
				left = append(left, file)
			}
		}
	}
	m.files = left
	m.dirs = []map[string]*modelFile{dir}
}

func (m *diskModel) crash(turns int, cuts []int) {
	m.fuse = -1
	m.settle(m.dirs[max(0, min(turns, len(m.dirs)-1))])
	for i, file := range m.files {
		size := file.safe
		if len(cuts) > 0 {
			size = max(size, min(file.safe+cuts[i%len(cuts)], len(file.body)))
		}
		file.body, file.safe = file.body[:size], size
	}
}

func modelLinks(dir map[string]*modelFile) []impl.Link {
	var list []impl.Link
	for name, file := range dir {
		list = append(list, impl.Link{Name: name, Id: file.id})
	}
	slices.SortFunc(list, func(a, b impl.Link) int { return strings.Compare(a.Name, b.Name) })
	return list
}

func (m *diskModel) compare(t *testing.T, d impl.Disk) {
	t.Helper()
	if !impl.DiskOk(d) {
		t.Fatalf("the disk is not valid: %+v", d)
	}
	if d.Room != m.room || d.Fuse != m.fuse || d.Next != m.next || len(d.Turns) != len(m.dirs)-1 || len(d.Files) != len(m.files) {
		t.Fatalf("the disk is %+v; want %+v", d, m)
	}
	for i, f := range m.files {
		if !sameFile(d.Files[i], impl.File{Id: f.id, Body: []byte(f.body), Safe: f.safe}) {
			t.Fatalf("file %d is %+v; want %+v", i, d.Files[i], f)
		}
	}
	if !slices.Equal(d.Kept, modelLinks(m.dirs[0])) || !slices.Equal(impl.DiskDir(d), modelLinks(m.dir())) {
		t.Fatalf("the directories are %v and %v", d.Kept, impl.DiskDir(d))
	}
	for _, name := range []string{"a", "b", "c", "d", "e.1", "f", "g", "h", "i", "j", "k", "l"} {
		body, ok := impl.DiskRead(d, name)
		file, exists := m.dir()[name]
		if ok != exists || exists && string(body) != file.body {
			t.Fatalf("%q contains %q, %v", name, body, ok)
		}
	}
}

func randomOp(r *rand.Rand, names []string) impl.DiskOp {
	op := impl.DiskOp{Kind: 1 + r.Intn(6), Name: names[r.Intn(len(names))]}
	switch op.Kind {
	case impl.DiAppend:
		op.Data = make([]byte, r.Intn(12))
		r.Read(op.Data)
	case impl.DiRename:
		op.To = names[r.Intn(len(names))]
	case impl.DiSyncDir:
		op.Name = ""
		if r.Intn(5) > 0 { // rarely, so that turns accumulate
			op = impl.DiskOp{Kind: impl.DiSync, Name: names[r.Intn(len(names))]}
		}
	}
	return op
}

func randomCuts(r *rand.Rand) []int {
	cuts := make([]int, r.Intn(5))
	for i := range cuts {
		cuts[i] = r.Intn(20) - 4
	}
	return cuts
}

// checkCrash checks the promise itself: durable bytes, and a prefix of the others.
func checkCrash(t *testing.T, before, after impl.Disk) {
	t.Helper()
	if !impl.DiskOk(after) || len(after.Turns) != 0 || after.Fuse != -1 {
		t.Fatalf("after a crash: %+v", after)
	}
	for _, file := range after.Files {
		at := slices.IndexFunc(before.Files, func(f impl.File) bool { return f.Id == file.Id })
		if at < 0 {
			t.Fatalf("the file %d did not exist before the crash", file.Id)
		}
		old := before.Files[at]
		if len(file.Body) < old.Safe || !bytes.HasPrefix(old.Body, file.Body) || file.Safe != len(file.Body) {
			t.Fatalf("the file %+v is %+v after the crash", old, file)
		}
	}
}

func TestRandomOperationsAndCrashes(t *testing.T) {
	names := []string{"a", "b", "c", "d", "e.1", "f", "g", "h", "i", "j", "k", "l"}
	codes := map[int]int{}
	for seed := range 120 {
		r := rand.New(rand.NewSource(int64(seed)))
		room := 20 + r.Intn(200)
		d, _ := impl.DiskNew(room)
		m := newDiskModel(room)
		some := names[:2+r.Intn(len(names)-1)]
		for range 200 {
			if r.Intn(20) == 0 {
				fuse := r.Intn(30) - 1
				if next, ok := impl.DiskSet(d, room, fuse); ok {
					d, m.fuse = next, fuse
				}
			}
			op := randomOp(r, some)
			next, code := impl.DiskDo(d, op)
			codes[code]++
			if want := m.do(op); code != want {
				t.Fatalf("%+v: code %d; want %d", op, code, want)
			}
			d = next
			m.compare(t, d)
			turns, cuts := r.Intn(40)-3, randomCuts(r)
			crashed, ok := impl.DiskCrash(d, turns, cuts)
			if !ok {
				t.Fatal("DiskCrash of a valid disk returns false")
			}
			checkCrash(t, d, crashed)
			if r.Intn(60) == 0 || code == 2 {
				d = crashed
				m.crash(turns, cuts)
				m.compare(t, d)
			}
		}
	}
	for _, code := range []int{0, 2, 3, 4, 5} {
		if codes[code] == 0 {
			t.Errorf("no operation had the code %d", code)
		}
	}
}

// breakDisk changes one field of the disk to a value that may or may not be valid.
func breakDisk(r *rand.Rand, d impl.Disk) impl.Disk {
	numbers := []int{math.MinInt, -2, -1, 0, 1, 2, 3, 5, 6, 7, 12, 23, impl.MaxId, impl.MaxId + 1, math.MaxInt}
	names := []string{"", "a", "b", "z", "0", "A", strings.Repeat("a", impl.MaxName+1)}
	n, name := numbers[r.Intn(len(numbers))], names[r.Intn(len(names))]
	file, link, turn := &d.Files[r.Intn(len(d.Files))], &d.Kept[r.Intn(len(d.Kept))], &d.Turns[r.Intn(len(d.Turns))]
	switch r.Intn(12) {
	case 0:
		d.Room = n
	case 1:
		d.Fuse = n
	case 2:
		d.Next = n
	case 3:
		file.Id = n
	case 4:
		file.Safe = n
	case 5:
		link.Name = name
	case 6:
		link.Id = n
	case 7:
		turn.Kind = n
	case 8:
		turn.Name = name
	case 9:
		turn.To = name
	case 10:
		turn.Id = n
	case 11:
		d.Turns = d.Turns[:r.Intn(len(d.Turns))]
	}
	return d
}

func TestBrokenDisksAreRejectedOrWork(t *testing.T) {
	r := rand.New(rand.NewSource(2))
	count := map[bool]int{}
	for range 20000 {
		d := breakDisk(r, sampleDisk())
		valid := impl.DiskOk(d)
		count[valid]++
		e, code := impl.DiskDo(d, randomOp(r, []string{"0", "a", "b", "c", "d", "z", "x"}))
		f, crashed := impl.DiskCrash(d, r.Intn(8)-1, randomCuts(r))
		g, set := impl.DiskSet(d, 100, 1)
		if valid != (code != 1) || valid != crashed || valid != set {
			t.Fatalf("DiskOk of %+v is %v, but the functions return %d, %v and %v", d, valid, code, crashed, set)
		}
		for _, x := range []impl.Disk{e, f, g} {
			if impl.DiskOk(x) != valid || !valid && !sameDisk(x, impl.Disk{}) {
				t.Fatalf("%+v becomes %+v", d, x)
			}
		}
	}
	if count[true] < 100 || count[false] < 100 {
		t.Errorf("%d disks are valid and %d are not", count[true], count[false])
	}
}
