package tests

import (
	"fmt"
	"slices"
	"strings"
	"testing"
	"unsafe"

	"loop.example/g00127/impl"
)

func diskOf(files ...impl.File) impl.Disk {
	return impl.Disk{Files: files}
}

func file(name, text string, kept int) impl.File {
	return impl.File{Name: name, Text: text, Kept: kept}
}

// Acts that have what their Kind may have, and nothing else.
func add(name, text string) impl.Act { return impl.Act{Kind: impl.ActAdd, Name: name, Text: text} }
func keep(name string) impl.Act      { return impl.Act{Kind: impl.ActKeep, Name: name} }
func move(name, to string) impl.Act  { return impl.Act{Kind: impl.ActMove, Name: name, To: to} }
func drop(name string) impl.Act      { return impl.Act{Kind: impl.ActDrop, Name: name} }
func sameDisk(a, b impl.Disk) bool   { return slices.Equal(a.Files, b.Files) }
func copyDisk(d impl.Disk) impl.Disk { return impl.Disk{Files: slices.Clone(d.Files)} }
func noDisk(d impl.Disk) bool        { return len(d.Files) == 0 }

func manyFiles(count int) (d impl.Disk) {
	for i := range count {
		d.Files = append(d.Files, file(fmt.Sprintf("f%02d", i), longText(i), i/2))
	}
	return d
}

func shown(d impl.Disk) string {
	s := ""
	for _, f := range d.Files {
		s += fmt.Sprintf(" %.12q:%.12q(%d)/%d", f.Name, f.Text, len(f.Text), f.Kept)
	}
	return "[" + s + " ]"
}

func shownActs(list ...impl.Act) string {
	s := ""
	for _, a := range list {
		s += fmt.Sprintf(" %d:%.12q+%.12q(%d)>%.12q", a.Kind, a.Name, a.Text, len(a.Text), a.To)
	}
	return "[" + s + " ]"
}

// rightDisks are ordinary ones, and those at the edges of what is right.
func rightDisks() []impl.Disk {
	return []impl.Disk{
		diskOf(), {Files: []impl.File{}},
		diskOf(file("a", "", 0)),
		diskOf(file("a", "123", 0)), diskOf(file("a", "123", 1)), diskOf(file("a", "123", 3)),
		diskOf(file("\x00", "\x00\xff", 1), file("\x00\x00", "", 0), file("\xff", everyByte(), 128)),
		diskOf(file("a", "one", 3), file("ab", "two", 2), file("b", "three", 0)),
		diskOf(file("12345678", "x", 1)), diskOf(file("\xff\xff\xff\xff\xff\xff\xff\xff", "x", 0)),
		diskOf(file("a", longText(impl.MaxText), 0)), diskOf(file("a", longText(impl.MaxText), impl.MaxText)),
		diskOf(file("a", longText(impl.MaxText-1), 5)),
		manyFiles(impl.MaxFiles - 1), manyFiles(impl.MaxFiles),
	}
}

// wrongDisks have one thing each that makes them wrong.
func wrongDisks() []impl.Disk {
	long := strings.Repeat("n", impl.MaxName+1)
	return []impl.Disk{
		diskOf(file("", "", 0)), diskOf(file("", "abc", 3)), diskOf(file("", "", 0), file("a", "", 0)),
		diskOf(file(long, "", 0)), diskOf(file("a", "", 0), file(long, "abc", 3)), diskOf(file(long, "", 0), file("o", "", 0)),
		diskOf(file("a", longText(impl.MaxText+1), 0)), diskOf(file("a", "", 0), file("b", longText(impl.MaxText+1), 1)),
		diskOf(file("a", "123", 4)), diskOf(file("a", "123", -1)), diskOf(file("a", "", 1)), diskOf(file("a", "", -1)),
		diskOf(file("a", "", 0), file("b", "1", 2)), diskOf(file("a", "1", 2), file("b", "", 0)),
		diskOf(file("a", "1", 1), file("a", "2", 1)), diskOf(file("a", "1", 1), file("a", "1", 1)),
		diskOf(file("b", "", 0), file("a", "", 0)), diskOf(file("ab", "", 0), file("a", "", 0)),
		diskOf(file("a", "", 0), file("c", "", 0), file("b", "", 0)), diskOf(file("a", "", 0), file("b", "", 0), file("a", "", 0)),
		diskOf(file("a", "", 0), file("b", "", 0), file("b", "", 0)), diskOf(file("a", "", 0), file("B", "", 0)),
		diskOf(file("\xff", "", 0), file("a", "", 0)),
		manyFiles(impl.MaxFiles + 1), manyFiles(2 * impl.MaxFiles),
	}
}

func wantAct(t *testing.T, d impl.Disk, a impl.Act, want impl.Disk) {
	t.Helper()
	before := copyDisk(d)
	got, ok := impl.DoAct(d, a)
	if !ok || !sameDisk(got, want) {
		t.Errorf("DoAct(%s, %s) = %s, %v; want %s, true", shown(d), shownActs(a), shown(got), ok, shown(want))
	}
	if !sameDisk(d, before) {
		t.Errorf("DoAct(.., %s) made %s of its argument %s", shownActs(a), shown(d), shown(before))
	}
	if !impl.DiskOk(got) {
		t.Errorf("DoAct(%s, %s) = %s, which is not right", shown(d), shownActs(a), shown(got))
	}
}

func refuseAct(t *testing.T, d impl.Disk, a impl.Act) {
	t.Helper()
	before := copyDisk(d)
	if got, ok := impl.DoAct(d, a); ok || !noDisk(got) {
		t.Errorf("DoAct(%s, %s) = %s, %v; want nothing", shown(d), shownActs(a), shown(got), ok)
	}
	if !sameDisk(d, before) {
		t.Errorf("DoAct(.., %s) made %s of its argument %s", shownActs(a), shown(d), shown(before))
	}
}

func wantLost(t *testing.T, d impl.Disk, left []int, want impl.Disk) {
	t.Helper()
	if got, ok := impl.LoseDisk(d, left); !ok || !sameDisk(got, want) {
		t.Errorf("LoseDisk(%s, %v) = %s, %v; want %s, true", shown(d), left, shown(got), ok, shown(want))
	}
}

func wantCut(t *testing.T, d impl.Disk, list []impl.Act, whole int, left []int, want impl.Disk) {
	t.Helper()
	if got, ok := impl.CutActs(d, list, whole, left); !ok || !sameDisk(got, want) {
		t.Errorf("CutActs(%s, %s, %d, %v) = %s, %v; want %s, true", shown(d), shownActs(list...), whole, left, shown(got), ok, shown(want))
	}
}

func refuseCut(t *testing.T, d impl.Disk, list []impl.Act, whole int, left []int) {
	t.Helper()
	if got, ok := impl.CutActs(d, list, whole, left); ok || !noDisk(got) {
		t.Errorf("CutActs(%s, %s, %d, %v) = %s, %v; want nothing", shown(d), shownActs(list...), whole, left, shown(got), ok)
	}
}

func TestDiskOk(t *testing.T) {
	for _, d := range rightDisks() {
		if !impl.DiskOk(d) {
			t.Errorf("DiskOk(%s) is false", shown(d))
		}
	}
	for _, d := range wrongDisks() {
		if impl.DiskOk(d) {
			t.Errorf("DiskOk(%s) is true", shown(d))
		}
	}
}

func TestDiskOkNames(t *testing.T) {
	for size := range 3 * impl.MaxName {
		want := size >= 1 && size <= impl.MaxName
		if got := impl.DiskOk(diskOf(file(strings.Repeat("n", size), "", 0))); got != want {
			t.Errorf("DiskOk with a Name of %d bytes is %v", size, got)
		}
	}
	// A Name is counted in bytes: these four have two each.
	if !impl.DiskOk(diskOf(file("äöüß", "", 0))) || impl.DiskOk(diskOf(file("äöüßx", "", 0))) {
		t.Error("DiskOk counts other than bytes")
	}
}

func TestFileAt(t *testing.T) {
	for _, d := range rightDisks() {
		for _, f := range d.Files {
			if s, ok := impl.FileAt(d, f.Name); !ok || s != f.Text {
				t.Errorf("FileAt(%s, %q) = %.40q, %v", shown(d), f.Name, s, ok)
			}
		}
		for _, name := range []string{"", "none", "A", "a\x00", "aa", "f", "f0", "f000", "f99", strings.Repeat("n", impl.MaxName+1)} {
			if s, ok := impl.FileAt(d, name); ok || s != "" {
				t.Errorf("FileAt(%s, %q) = %.40q, %v; want nothing", shown(d), name, s, ok)
			}
		}
	}
	// A file without Text is one that there is.
	if s, ok := impl.FileAt(diskOf(file("a", "", 0)), "a"); !ok || s != "" {
		t.Errorf("FileAt of a file without Text = %q, %v", s, ok)
	}
}

// No more is asked of the disk than a file of the Name.
func TestFileAtOfWrongDisks(t *testing.T) {
	for _, d := range wrongDisks() {
		for at, f := range d.Files {
			first := slices.IndexFunc(d.Files, func(g impl.File) bool { return g.Name == f.Name })
			if s, ok := impl.FileAt(d, f.Name); !ok || s != d.Files[first].Text {
				t.Errorf("FileAt(%s, %.12q), which stands at %d, = %.40q, %v", shown(d), f.Name, at, s, ok)
			}
		}
		if s, ok := impl.FileAt(d, "none"); ok || s != "" {
			t.Errorf("FileAt(%s, none) = %.40q, %v; want nothing", shown(d), s, ok)
		}
	}
}

func TestActAdd(t *testing.T) {
	wantAct(t, diskOf(), add("a", "xy"), diskOf(file("a", "xy", 0)))
	wantAct(t, diskOf(), add("a", ""), diskOf(file("a", "", 0)))
	wantAct(t, diskOf(file("a", "", 0)), add("a", ""), diskOf(file("a", "", 0)))
	for kept := range 4 {
		wantAct(t, diskOf(file("a", "123", kept)), add("a", "4"), diskOf(file("a", "1234", kept)))
		wantAct(t, diskOf(file("a", "123", kept)), add("a", ""), diskOf(file("a", "123", kept)))
	}
	two := diskOf(file("b", "1", 1), file("d", "2", 0))
	wantAct(t, two, add("a", "x"), diskOf(file("a", "x", 0), two.Files[0], two.Files[1]))
	wantAct(t, two, add("c", "x"), diskOf(two.Files[0], file("c", "x", 0), two.Files[1]))
	wantAct(t, two, add("bb", "x"), diskOf(two.Files[0], file("bb", "x", 0), two.Files[1]))
	wantAct(t, two, add("e", "x"), diskOf(two.Files[0], two.Files[1], file("e", "x", 0)))
	wantAct(t, two, add("\xff", "x"), diskOf(two.Files[0], two.Files[1], file("\xff", "x", 0)))
	wantAct(t, two, add("d", "\x00\xff"), diskOf(two.Files[0], file("d", "2\x00\xff", 0)))
}

func TestActAddLimits(t *testing.T) {
	wantAct(t, diskOf(), add("12345678", "x"), diskOf(file("12345678", "x", 0)))
	refuseAct(t, diskOf(), add("123456789", "x"))
	refuseAct(t, diskOf(), add("", "x"))
	refuseAct(t, diskOf(), add("", ""))
	full := longText(impl.MaxText)
	wantAct(t, diskOf(), add("a", full), diskOf(file("a", full, 0)))
	refuseAct(t, diskOf(), add("a", longText(impl.MaxText+1)))
	wantAct(t, diskOf(file("a", full[:7], 3)), add("a", full[7:]), diskOf(file("a", full, 3)))
	refuseAct(t, diskOf(file("a", full[:7], 3)), add("a", full[6:]))
	wantAct(t, diskOf(file("a", full, 3)), add("a", ""), diskOf(file("a", full, 3)))
	refuseAct(t, diskOf(file("a", full, 3)), add("a", "x"))
	refuseAct(t, diskOf(file("a", full, 3)), add("a", full))

	almost := manyFiles(impl.MaxFiles - 1)
	wantAct(t, almost, add("z", "x"), diskOf(append(slices.Clone(almost.Files), file("z", "x", 0))...))
	whole := manyFiles(impl.MaxFiles)
	refuseAct(t, whole, add("z", "x"))
	refuseAct(t, whole, add("a", ""))
	more := copyDisk(whole)
	more.Files[4].Text += "x"
	wantAct(t, whole, add(whole.Files[4].Name, "x"), more)
}

func TestActKeep(t *testing.T) {
	for kept := range 4 {
		wantAct(t, diskOf(file("a", "123", kept)), keep("a"), diskOf(file("a", "123", 3)))
	}
	wantAct(t, diskOf(file("a", "", 0)), keep("a"), diskOf(file("a", "", 0)))
	wantAct(t, diskOf(file("a", "1", 0), file("b", "2", 0), file("c", "3", 0)), keep("b"),
		diskOf(file("a", "1", 0), file("b", "2", 1), file("c", "3", 0)))
	full := longText(impl.MaxText)
	wantAct(t, diskOf(file("a", full, 0)), keep("a"), diskOf(file("a", full, impl.MaxText)))
}

func TestActMove(t *testing.T) {
	a, b, c := file("a", "1", 1), file("b", "22", 0), file("c", "333", 3)
	all := diskOf(a, b, c)
	wantAct(t, diskOf(a), move("a", "b"), diskOf(file("b", "1", 1)))
	wantAct(t, all, move("a", "d"), diskOf(b, c, file("d", "1", 1)))
	wantAct(t, all, move("c", "aa"), diskOf(a, file("aa", "333", 3), b))
	wantAct(t, all, move("c", "\x00"), diskOf(file("\x00", "333", 3), a, b))
	// Of the one in whose place it comes nothing stays, kept or not.
	wantAct(t, all, move("a", "b"), diskOf(file("b", "1", 1), c))
	wantAct(t, all, move("a", "c"), diskOf(b, file("c", "1", 1)))
	wantAct(t, all, move("c", "a"), diskOf(file("a", "333", 3), b))
	wantAct(t, diskOf(file("a", "", 0), b), move("a", "b"), diskOf(file("b", "", 0)))
	wantAct(t, all, move("a", "12345678"), diskOf(file("12345678", "1", 1), b, c))
	// A full disk has no file more behind it.
	whole := manyFiles(impl.MaxFiles)
	wantAct(t, whole, move("f00", "a"), diskOf(append([]impl.File{file("a", "", 0)}, whole.Files[1:]...)...))
	wantAct(t, whole, move("f00", "f01"), diskOf(append([]impl.File{file("f01", "", 0)}, whole.Files[2:]...)...))
}

func TestActMoveRefuses(t *testing.T) {
	a, b, c := file("a", "1", 1), file("b", "22", 0), file("c", "333", 2)
	all := diskOf(a, b, c)
	for _, to := range []string{"a", "d", "b", "c"} {
		refuseAct(t, all, move("b", to))
		refuseAct(t, all, move("c", to))
	}
	refuseAct(t, all, move("a", "a"))
	refuseAct(t, all, move("a", ""))
	refuseAct(t, all, move("a", "123456789"))
	refuseAct(t, all, move("", "a"))
	refuseAct(t, all, move("", ""))
	refuseAct(t, diskOf(file("a", "", 0)), move("a", "a"))
}

func TestActDrop(t *testing.T) {
	a, b, c := file("a", "1", 1), file("b", "22", 0), file("c", "333", 2)
	all := diskOf(a, b, c)
	wantAct(t, all, drop("a"), diskOf(b, c))
	wantAct(t, all, drop("b"), diskOf(a, c))
	wantAct(t, all, drop("c"), diskOf(a, b))
	wantAct(t, diskOf(a), drop("a"), diskOf())
	whole := manyFiles(impl.MaxFiles)
	wantAct(t, whole, drop("f29"), manyFiles(impl.MaxFiles-1))
}

func TestActsOfNoFile(t *testing.T) {
	for _, d := range []impl.Disk{diskOf(), diskOf(file("a", "1", 1), file("c", "2", 1))} {
		for _, name := range []string{"b", "", "A", "aa", "123456789"} {
			refuseAct(t, d, keep(name))
			refuseAct(t, d, drop(name))
			for _, to := range []string{"a", "c", "d", name, ""} {
				refuseAct(t, d, move(name, to))
			}
		}
	}
}

func TestActsOfOtherKinds(t *testing.T) {
	d := diskOf(file("a", "1", 1), file("b", "2", 1))
	for _, kind := range []int{-1 << 63, -4, -1, 0, 5, 6, 257, 1<<63 - 1} {
		for _, a := range []impl.Act{{}, add("a", "x"), add("c", "x"), keep("a"), move("a", "c"), move("a", "b"), drop("a")} {
			a.Kind = kind
			refuseAct(t, d, a)
		}
	}
}

// What should be empty is not: the act would be right without it.
func TestActsWithTooMuch(t *testing.T) {
	d := diskOf(file("a", "1", 1), file("b", "2", 1))
	for _, extra := range []string{"a", "b", "c", "\x00", "123456789"} {
		for _, a := range []impl.Act{add("a", "x"), add("c", "x"), add("c", ""), keep("a"), drop("a")} {
			a.To = extra
			refuseAct(t, d, a)
		}
		for _, a := range []impl.Act{keep("a"), move("a", "b"), move("a", "c"), drop("a")} {
			a.Text = extra
			refuseAct(t, d, a)
		}
	}
}

func TestActsOnWrongDisks(t *testing.T) {
	for _, d := range wrongDisks() {
		for _, f := range d.Files {
			for _, a := range []impl.Act{add(f.Name, ""), add("z", ""), add("z", "x"), keep(f.Name), move(f.Name, "z"), drop(f.Name)} {
				refuseAct(t, d, a)
			}
		}
	}
}

func TestDoActs(t *testing.T) {
	start := diskOf(file("a", "1", 0))
	list := []impl.Act{add("b", "22"), keep("b"), move("b", "a"), add("a", "3"), drop("a")}
	want := []impl.Disk{
		start,
		diskOf(file("a", "1", 0), file("b", "22", 0)),
		diskOf(file("a", "1", 0), file("b", "22", 2)),
		diskOf(file("a", "22", 2)),
		diskOf(file("a", "223", 2)),
		diskOf(),
	}
	for count := range want {
		if got, n := impl.DoActs(start, list[:count]); n != count || !sameDisk(got, want[count]) {
			t.Errorf("DoActs of the first %d = %s, %d; want %s", count, shown(got), n, shown(want[count]))
		}
		for _, wrong := range []impl.Act{{}, keep("none"), move("a", "a"), drop("none"), add("", "x"), add("a", longText(impl.MaxText+1))} {
			// What comes behind the first that is false is not done.
			broken := append(append(slices.Clone(list[:count]), wrong), add("z", "z"))
			if got, n := impl.DoActs(start, broken); n != count || !sameDisk(got, want[count]) {
				t.Errorf("DoActs of %d and %s = %s, %d; want %s", count, shownActs(wrong), shown(got), n, shown(want[count]))
			}
		}
	}
	if !sameDisk(start, diskOf(file("a", "1", 0))) {
		t.Error("DoActs wrote into its argument")
	}
}

// A disk that is not right stays as it is: no act of it is true.
func TestDoActsOnWrongDisks(t *testing.T) {
	for _, d := range wrongDisks() {
		for _, list := range [][]impl.Act{nil, {add("z", "x")}, {drop(d.Files[0].Name), add("z", "x")}} {
			if got, n := impl.DoActs(d, list); n != 0 || !sameDisk(got, d) {
				t.Errorf("DoActs(%s, %s) = %s, %d", shown(d), shownActs(list...), shown(got), n)
			}
		}
	}
}

func TestLoseDisk(t *testing.T) {
	low, high := -1<<63, 1<<63-1
	d := diskOf(file("a", "12345", 2))
	for _, c := range []struct{ told, stays int }{
		{low, 2}, {-1, 2}, {0, 2}, {1, 2}, {2, 2}, {3, 3}, {4, 4}, {5, 5}, {6, 5}, {high, 5},
	} {
		wantLost(t, d, []int{c.told}, diskOf(file("a", "12345"[:c.stays], c.stays)))
		// What is told of files that there are not changes nothing.
		wantLost(t, d, []int{c.told, 9, -9, high}, diskOf(file("a", "12345"[:c.stays], c.stays)))
	}
	wantLost(t, d, nil, diskOf(file("a", "12", 2)))
	wantLost(t, d, []int{}, diskOf(file("a", "12", 2)))
	wantLost(t, diskOf(), nil, diskOf())
	wantLost(t, diskOf(), []int{1, 2}, diskOf())
	wantLost(t, diskOf(file("a", "123", 0)), nil, diskOf(file("a", "", 0)))
	wantLost(t, diskOf(file("a", "123", 3)), nil, diskOf(file("a", "123", 3)))

	three := diskOf(file("a", "12345", 1), file("b", "abc", 0), file("c", "xyz", 2))
	wantLost(t, three, nil, diskOf(file("a", "1", 1), file("b", "", 0), file("c", "xy", 2)))
	wantLost(t, three, []int{4}, diskOf(file("a", "1234", 4), file("b", "", 0), file("c", "xy", 2)))
	wantLost(t, three, []int{-1, 2}, diskOf(file("a", "1", 1), file("b", "ab", 2), file("c", "xy", 2)))
	wantLost(t, three, []int{0, 9, 3}, diskOf(file("a", "1", 1), file("b", "abc", 3), file("c", "xyz", 3)))
}

func TestLoseDiskRefuses(t *testing.T) {
	for _, d := range wrongDisks() {
		for _, left := range [][]int{nil, {0}, {1 << 40, 1 << 40}, {-1}} {
			if got, ok := impl.LoseDisk(d, left); ok || !noDisk(got) {
				t.Errorf("LoseDisk(%s, %v) = %s, %v; want nothing", shown(d), left, shown(got), ok)
			}
		}
	}
}

// Promise 3, of disks at the edges, whatever left tells.
func TestWhatIsKeptIsNeverLost(t *testing.T) {
	next := draws(3)
	for _, d := range append(rightDisks(), drawnDisks(200)...) {
		for round := range 8 {
			left := make([]int, next(2*len(d.Files)+1))
			for i := range left {
				left[i] = next(40) - 10
				if round%4 == 0 {
					left[i] = next(2*impl.MaxText) - impl.MaxText/2
				}
			}
			holdLost(t, d, left)
		}
	}
}

// holdLost holds what is left of each file against what it was, without reckoning how much it is.
func holdLost(t *testing.T, d impl.Disk, left []int) {
	t.Helper()
	before, told := copyDisk(d), slices.Clone(left)
	lost, ok := impl.LoseDisk(d, left)
	if !ok || len(lost.Files) != len(d.Files) {
		t.Fatalf("LoseDisk(%s, %v) = %s, %v", shown(d), left, shown(lost), ok)
	}
	for i, f := range lost.Files {
		was := d.Files[i]
		if f.Name != was.Name || !strings.HasPrefix(was.Text, f.Text) || len(f.Text) < was.Kept || f.Kept != len(f.Text) {
			t.Errorf("LoseDisk(%s, %v) leaves %s", shown(d), left, shown(lost))
		}
	}
	if !impl.DiskOk(lost) || !impl.AllKept(lost) {
		t.Errorf("LoseDisk(%s, %v) = %s: not right, or not all kept", shown(d), left, shown(lost))
	}
	for _, again := range [][]int{nil, left, {0, 0, 0}, {-1}, {1 << 62}} {
		wantLost(t, lost, again, lost)
	}
	if !sameDisk(d, before) || !slices.Equal(left, told) {
		t.Error("LoseDisk wrote into an argument")
	}
}

func TestCutActs(t *testing.T) {
	start := diskOf(file("a", "12", 1))
	list := []impl.Act{add("b", "xyz"), keep("b"), add("b", "uv"), drop("a"), keep("none"), add("c", "c")}
	wantCut(t, start, list, 0, nil, diskOf(file("a", "1", 1)))
	wantCut(t, start, list, 0, []int{9, 9}, diskOf(file("a", "12", 2)))
	wantCut(t, start, list, 1, nil, diskOf(file("a", "1", 1), file("b", "", 0)))
	wantCut(t, start, list, 1, []int{2, 2}, diskOf(file("a", "12", 2), file("b", "xy", 2)))
	wantCut(t, start, list, 2, nil, diskOf(file("a", "1", 1), file("b", "xyz", 3)))
	wantCut(t, start, list, 3, nil, diskOf(file("a", "1", 1), file("b", "xyz", 3)))
	wantCut(t, start, list, 3, []int{0, 4}, diskOf(file("a", "1", 1), file("b", "xyzu", 4)))
	// The places are those of the files behind the acts.
	wantCut(t, start, list, 4, []int{4, 0}, diskOf(file("b", "xyzu", 4)))
	// The act that is false is told when it is one of the first whole, not ahead of that.
	refuseCut(t, start, list, 5, nil)
	refuseCut(t, start, list, 6, nil)
	for _, whole := range []int{-1 << 63, -1, 7, 1<<63 - 1} {
		refuseCut(t, start, list, whole, nil)
	}
	wantCut(t, start, list[:4], 4, nil, diskOf(file("b", "xyz", 3)))
	refuseCut(t, start, list[:4], 5, nil)
	wantCut(t, start, nil, 0, nil, diskOf(file("a", "1", 1)))
	refuseCut(t, start, nil, 1, nil)
	refuseCut(t, start, nil, -1, nil)
	refuseCut(t, start, []impl.Act{{}}, 1, nil)
	wantCut(t, start, []impl.Act{{}}, 0, nil, diskOf(file("a", "1", 1)))
}

func TestCutActsOnWrongDisks(t *testing.T) {
	for _, d := range wrongDisks() {
		for whole := -1; whole < 3; whole++ {
			refuseCut(t, d, []impl.Act{drop(d.Files[0].Name), add("z", "")}, whole, []int{1, 2})
		}
		refuseCut(t, d, nil, 0, nil)
	}
}

func TestAllKept(t *testing.T) {
	for _, d := range append(rightDisks(), drawnDisks(100)...) {
		want := true
		for _, f := range d.Files {
			want = want && f.Kept == len(f.Text)
		}
		if got := impl.AllKept(d); got != want {
			t.Errorf("AllKept(%s) = %v", shown(d), got)
		}
		all := copyDisk(d)
		for i := range all.Files {
			all.Files[i].Kept = len(all.Files[i].Text)
		}
		if !impl.AllKept(all) {
			t.Errorf("AllKept(%s) is false", shown(all))
		}
	}
	for _, d := range wrongDisks() {
		all := copyDisk(d)
		for i := range all.Files {
			if f := &all.Files[i]; f.Kept >= 0 && f.Kept < len(f.Text) {
				f.Kept = len(f.Text)
			}
		}
		if impl.AllKept(d) || impl.AllKept(all) {
			t.Errorf("AllKept is true of %s, or of %s", shown(d), shown(all))
		}
	}
}

// draws answers with numbers below what it is asked for, the same ones each time.
func draws(seed uint64) func(below int) int {
	return func(below int) int {
		seed = seed*6364136223846793005 + 1442695040888963407
		return int(seed >> 33 % uint64(below))
	}
}

var drawnNames = []string{"", "a", "b", "c", "ab", "\x00", "\xff", "12345678", "123456789"}

func drawnAct(next func(int) int) impl.Act {
	a := impl.Act{Kind: next(5), Name: drawnNames[next(len(drawnNames))]}
	if a.Kind == impl.ActAdd {
		a.Text = longText(next(12))
	}
	if a.Kind == impl.ActMove {
		a.To = drawnNames[next(len(drawnNames))]
	}
	if next(20) == 0 {
		a.To += "c"
	}
	if next(20) == 0 {
		a.Text += "x"
	}
	return a
}

// drawnDisks are those behind lists of drawn acts, some of them false.
func drawnDisks(count int) []impl.Disk {
	next := draws(7)
	var list []impl.Disk
	var d impl.Disk
	for len(list) < count {
		if e, ok := actByList(d, drawnAct(next)); ok {
			d = e
			list = append(list, d)
		}
	}
	return list
}

// actByList does an act as the document tells it, over the list of files alone, and asks at the end whether what comes is right.
func actByList(d impl.Disk, a impl.Act) (impl.Disk, bool) {
	files := slices.Clone(d.Files)
	at := slices.IndexFunc(files, func(f impl.File) bool { return f.Name == a.Name })
	if at < 0 && a.Kind == impl.ActAdd {
		at = len(files)
		files = append(files, impl.File{Name: a.Name})
	}
	if at < 0 || a.Kind != impl.ActAdd && a.Text != "" || a.Kind != impl.ActMove && a.To != "" || a.To == a.Name {
		return impl.Disk{}, false
	}
	switch a.Kind {
	case impl.ActAdd:
		files[at].Text += a.Text
	case impl.ActKeep:
		files[at].Kept = len(files[at].Text)
	case impl.ActMove:
		if files[at].Kept != len(files[at].Text) {
			return impl.Disk{}, false
		}
		files = slices.DeleteFunc(files, func(f impl.File) bool { return f.Name == a.To })
		at = slices.IndexFunc(files, func(f impl.File) bool { return f.Name == a.Name })
		files[at].Name = a.To
	case impl.ActDrop:
		files = slices.Delete(files, at, at+1)
	default:
		return impl.Disk{}, false
	}
	slices.SortFunc(files, func(f, g impl.File) int { return strings.Compare(f.Name, g.Name) })
	e := diskOf(files...)
	return e, rightByList(e)
}

func rightByList(d impl.Disk) bool {
	for i, f := range d.Files {
		if len(f.Name) < 1 || len(f.Name) > 8 || len(f.Text) > 20000 || f.Kept < 0 || f.Kept > len(f.Text) {
			return false
		}
		if i > 0 && strings.Compare(d.Files[i-1].Name, f.Name) != -1 {
			return false
		}
	}
	return len(d.Files) <= 30
}

func TestDrawnActs(t *testing.T) {
	next := draws(11)
	var d impl.Disk
	count := map[int]int{}
	for range 20000 {
		a := drawnAct(next)
		if e, ok := actByList(d, a); ok {
			wantAct(t, d, a, e)
			d = e
			count[a.Kind]++
		} else {
			refuseAct(t, d, a)
		}
	}
	for kind := impl.ActAdd; kind <= impl.ActDrop; kind++ {
		if count[kind] < 100 {
			t.Errorf("only %d acts of the kind %d were true", count[kind], kind)
		}
	}
}

// Cut anywhere, a list of acts leaves what the acts one by one, and the loss of power behind them, leave.
func TestDrawnCuts(t *testing.T) {
	next := draws(13)
	var d impl.Disk
	for range 300 {
		list := make([]impl.Act, next(9))
		for i := range list {
			list[i] = drawnAct(next)
		}
		left := []int{next(9) - 1, next(9) - 1, next(9) - 1}
		behind, ok := d, true
		done := 0
		for whole := range len(list) + 1 {
			if whole > 0 && ok {
				var e impl.Disk
				if e, ok = actByList(behind, list[whole-1]); ok {
					behind, done = e, whole
				}
			}
			if !ok {
				refuseCut(t, d, list, whole, left)
				continue
			}
			want, _ := impl.LoseDisk(behind, left)
			wantCut(t, d, list, whole, left, want)
		}
		got, n := impl.DoActs(d, list)
		if n != done || !sameDisk(got, behind) {
			t.Errorf("DoActs(%s, %s) = %s, %d; want %s, %d", shown(d), shownActs(list...), shown(got), n, shown(behind), done)
		}
		d = behind
	}
}

// holdNew fails when a list or a text of got lies where one of the arguments does.
func holdNew(t *testing.T, what string, got impl.Disk, texts []string) {
	t.Helper()
	for _, f := range got.Files {
		for _, s := range texts {
			if len(s) > 0 && (unsafe.StringData(f.Text) == unsafe.StringData(s) || unsafe.StringData(f.Name) == unsafe.StringData(s)) {
				t.Errorf("%s answers with the memory of its argument %.20q", what, s)
			}
		}
	}
}

// Arguments with spare room behind them: nothing is written there, and nothing is shared.
func TestDisksAreNew(t *testing.T) {
	room := []impl.File{file("aa", "12", 1), file("bb", "34", 2), file("mark", "mark", 9), file("mark", "mark", 9)}
	d := impl.Disk{Files: room[:2]}
	acts := []impl.Act{add("cc", "text"), keep("cc"), move("cc", "dd"), drop("aa"), add("mark", "x")}
	before, actsBefore := slices.Clone(room), slices.Clone(acts)
	var texts []string
	for _, f := range room {
		texts = append(texts, f.Name, f.Text)
	}
	for _, a := range acts {
		texts = append(texts, a.Name, a.Text, a.To)
	}
	wrong := impl.Disk{Files: slices.Clone(room)}
	answers := map[string]func() impl.Disk{
		"DoAct of add":   func() impl.Disk { e, _ := impl.DoAct(d, acts[0]); return e },
		"DoAct of none":  func() impl.Disk { e, _ := impl.DoAct(d, add("aa", "")); return e },
		"DoAct of keep":  func() impl.Disk { e, _ := impl.DoAct(d, keep("aa")); return e },
		"DoAct of move":  func() impl.Disk { e, _ := impl.DoAct(d, move("bb", "a")); return e },
		"DoAct of drop":  func() impl.Disk { e, _ := impl.DoAct(d, acts[3]); return e },
		"DoActs":         func() impl.Disk { e, _ := impl.DoActs(d, acts[:4]); return e },
		"DoActs of none": func() impl.Disk { e, _ := impl.DoActs(d, nil); return e },
		"DoActs, wrong":  func() impl.Disk { e, _ := impl.DoActs(wrong, acts); return e },
		"LoseDisk":       func() impl.Disk { e, _ := impl.LoseDisk(d, []int{9, 9}); return e },
		"LoseDisk, less": func() impl.Disk { e, _ := impl.LoseDisk(d, []int{1, 0}); return e },
		"CutActs":        func() impl.Disk { e, _ := impl.CutActs(d, acts, 3, []int{9, 9, 9}); return e },
		"CutActs at 0":   func() impl.Disk { e, _ := impl.CutActs(d, acts, 0, nil); return e },
	}
	for what, answer := range answers {
		got := answer()
		if noDisk(got) {
			t.Fatalf("%s has no files", what)
		}
		holdNew(t, what, got, texts)
		for i := range got.Files {
			got.Files[i] = file("turned", "turned", -1)
		}
		if !slices.Equal(room, before) || !slices.Equal(acts, actsBefore) || !slices.Equal(wrong.Files, before) {
			t.Fatalf("%s: an argument was written into", what)
		}
	}
	if s, _ := impl.FileAt(d, "aa"); s != "12" || unsafe.StringData(s) == unsafe.StringData(room[0].Text) {
		t.Error("FileAt answers with the memory of its argument")
	}
}

func TestFileConstants(t *testing.T) {
	got := [6]int{impl.MaxFiles, impl.MaxName, impl.ActAdd, impl.ActKeep, impl.ActMove, impl.ActDrop}
	if got != [6]int{30, 8, 1, 2, 3, 4} {
		t.Errorf("the constants are %v", got)
	}
}
