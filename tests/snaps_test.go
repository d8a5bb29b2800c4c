package tests

import (
	"fmt"
	"math"
	"regexp"
	"slices"
	"strconv"
	"strings"
	"testing"

	"loop.example/g00127/impl"
)

func snapOf(index, term int, body string, conf ...int) impl.Snap {
	return impl.Snap{Index: index, Term: term, Conf: conf, Body: body}
}

// fieldsByHand is what stands ahead of the seal, also of a snapshot that is not right.
func fieldsByHand(s impl.Snap) string {
	return numberByHand(s.Index) + numberByHand(s.Term) + numberByHand(len(s.Conf)) + confByHand(s.Conf) + numberByHand(len(s.Body)) + s.Body
}

func sealedByHand(fields string) string { return fields + sealByBits(fields) }

func snapByHand(s impl.Snap) string { return sealedByHand(fieldsByHand(s)) }

func rightSnapByHand(s impl.Snap) bool {
	return s.Index >= 0 && s.Index <= 1000000 && s.Term >= 0 && s.Term <= 100000 && isRightConf(s.Conf) && len(fieldsByHand(s))+4 <= 20000
}

// snapByTrial tries each length of both numbers and of the conf, and writes what that gives once more.
func snapByTrial(text string) (impl.Snap, bool) {
	number := func(bytes string) (n int) {
		for at := len(bytes) - 1; at >= 0; at-- {
			n = n*128 + int(bytes[at])%128
		}
		return n
	}
	for first := 1; first <= 3; first++ {
		for second := first + 1; second <= first+3; second++ {
			for nodes := 1; nodes <= 4; nodes++ {
				for behind := 1; behind <= 3; behind++ {
					from := second + 1 + nodes + behind
					if from > len(text)-4 {
						continue
					}
					var conf []int
					for _, node := range []byte(text[second+1 : second+1+nodes]) {
						conf = append(conf, int(node))
					}
					s := snapOf(number(text[:first]), number(text[first:second]), text[from:len(text)-4], conf...)
					if rightSnapByHand(s) && snapByHand(s) == text {
						return s, true
					}
				}
			}
		}
	}
	return impl.Snap{}, false
}

var snapNames = regexp.MustCompile(`^s(0|[1-9][0-9]{0,6})$`)

// indexByHand is -1 of a name that is no SnapName.
func indexByHand(name string) int {
	if !snapNames.MatchString(name) {
		return -1
	}
	index, _ := strconv.Atoi(name[1:])
	if index > 1000000 {
		return -1
	}
	return index
}

func newestByHand(d impl.Disk) (newest impl.Snap, found bool) {
	if !rightByList(d) {
		return impl.Snap{}, false
	}
	for _, f := range d.Files {
		index := indexByHand(f.Name)
		s, ok := snapByTrial(f.Text)
		if ok && index == s.Index && (!found || index > newest.Index) {
			newest, found = s, true
		}
	}
	return newest, found
}

func snapDropsByHand(d impl.Disk, stays int) (acts []impl.Act) {
	for _, f := range d.Files {
		if index := indexByHand(f.Name); index >= 0 && index != stays {
			acts = append(acts, drop(f.Name))
		}
	}
	return acts
}

func dropNewByHand(d impl.Disk) (acts []impl.Act) {
	for _, f := range d.Files {
		if f.Name == "s+" {
			acts = append(acts, drop("s+"))
		}
	}
	return acts
}

func snapActsByHand(d impl.Disk, s impl.Snap) ([]impl.Act, bool) {
	if !rightByList(d) || !rightSnapByHand(s) {
		return nil, false
	}
	acts := dropNewByHand(d)
	text := snapByHand(s)
	for len(text) > 60 {
		acts = append(acts, add("s+", text[:60]))
		text = text[60:]
	}
	acts = append(acts, add("s+", text), keep("s+"), move("s+", fmt.Sprint("s", s.Index)))
	return append(acts, snapDropsByHand(d, s.Index)...), true
}

func shedByHand(d impl.Disk) []impl.Act {
	newest, ok := newestByHand(d)
	if !ok {
		return nil
	}
	return append(dropNewByHand(d), snapDropsByHand(d, newest.Index)...)
}

func sameSnap(a, b impl.Snap) bool {
	return a.Index == b.Index && a.Term == b.Term && slices.Equal(a.Conf, b.Conf) && a.Body == b.Body
}

func emptySnap(s impl.Snap) bool { return sameSnap(s, impl.Snap{}) }

func shownSnap(s impl.Snap) string {
	return fmt.Sprintf("{Index %d, Term %d, Conf %.8d, Body %.20q(%d)}", s.Index, s.Term, s.Conf[:min(len(s.Conf), 9)], s.Body, len(s.Body))
}

// sizedSnap has a SnapText of just size bytes.
func sizedSnap(t *testing.T, index, size int) impl.Snap {
	t.Helper()
	for _, conf := range [][]int{{1}, {1, 2}} {
		for body := max(0, size-20); body <= size; body++ {
			if s := snapOf(index, 3, longText(body), conf...); len(snapByHand(s)) == size {
				return s
			}
		}
	}
	t.Fatalf("no snapshot has a text of %d bytes", size)
	return impl.Snap{}
}

// withSnaps is the disk with the files of these snapshots, all kept.
func withSnaps(d impl.Disk, snaps ...impl.Snap) impl.Disk {
	for _, s := range snaps {
		d = with(d, fmt.Sprint("s", s.Index), snapByHand(s))
	}
	return d
}

func onlyOthers(d impl.Disk) impl.Disk {
	return impl.Disk{Files: slices.DeleteFunc(slices.Clone(d.Files), func(f impl.File) bool { return f.Name == "s+" || indexByHand(f.Name) >= 0 })}
}

// otherFiles are all kept, and none of them is a snapshot's.
func otherFiles() impl.Disk {
	d := diskOf(file("a", "other", 5), file("j7", "journal", 7), file("s", "x", 1), file("t", "", 0))
	return with(d, "s01", snapByHand(snapOf(1, 1, "", 1)))
}

// rightSnaps meet each limit that the chapter names, and stay within the others.
func rightSnaps() (list []impl.Snap) {
	for _, index := range append([]int{0}, edgeIndexes...) {
		list = append(list, snapOf(index, 2, "b", 1), snapOf(index, impl.MaxTerm, "", 1, 2, 3, 4))
	}
	for _, term := range edgeTerms {
		list = append(list, snapOf(7, term, "body", 2, 3), snapOf(impl.MaxIndex, term, "", 4))
	}
	for _, conf := range rightConfs() {
		list = append(list, snapOf(5, 300, "x", conf...), snapOf(0, 0, "", conf...))
	}
	for _, size := range []int{0, 1, 2, 40, 51, 52, 53, 126, 127, 128, 129, 1000, 16383, 16384, 19988, 19989} {
		list = append(list, snapOf(3, 1, longText(size), 1))
	}
	for _, body := range []string{"\x00", "\xff", "\x80\x00", everyByte(), snapByHand(snapOf(3, 1, "b", 1)), strings.Repeat("\x00", 19989)} {
		list = append(list, snapOf(3, 1, body, 1))
	}
	return list
}

func wrongSnaps() (list []impl.Snap) {
	for _, index := range []int{-1, -2, -128, impl.MaxIndex + 1, impl.MaxIndex + 2, impl.MaxNumber, impl.MaxNumber + 1, math.MinInt, math.MaxInt} {
		list = append(list, snapOf(index, 2, "b", 1), snapOf(index, 0, "", 1, 2, 3))
	}
	for _, term := range wrongTerms {
		list = append(list, snapOf(3, term, "b", 1), snapOf(0, term, "", 1, 2, 3))
	}
	for _, conf := range wrongConfs() {
		list = append(list, snapOf(3, 2, "b", conf...), snapOf(0, 0, "", conf...))
	}
	// The whole text of each is longer than MaxText: by one byte, by more, by its seal alone, by its Body alone.
	for _, size := range []int{19990, 19991, 19992, 19993, 19994, 19999, impl.MaxText, impl.MaxText + 1, impl.MaxText + 2, 3 * impl.MaxText} {
		list = append(list, snapOf(3, 1, longText(size), 1))
	}
	return append(list, snapOf(3, 1, longText(19989), 1, 2), snapOf(128, 1, longText(19989), 1), snapOf(3, 128, longText(19989), 1))
}

func refuseSnapText(t *testing.T, s impl.Snap) {
	t.Helper()
	if text, ok := impl.SnapText(s); ok || text != "" {
		t.Errorf("SnapText(%s) = %.40q, %v; want nothing", shownSnap(s), text, ok)
	}
}

func wantSnap(t *testing.T, text string, want impl.Snap) {
	t.Helper()
	if s, ok := impl.ReadSnap(text); !ok || !sameSnap(s, want) {
		t.Errorf("ReadSnap(%.40q) of %d bytes = %s, %v; want %s, true", text, len(text), shownSnap(s), ok, shownSnap(want))
	}
}

func refuseSnap(t *testing.T, text string) {
	t.Helper()
	if s, ok := impl.ReadSnap(text); ok || !emptySnap(s) {
		t.Errorf("ReadSnap(%.40q) of %d bytes = %s, %v; want nothing", text, len(text), shownSnap(s), ok)
	}
}

// holdSnapText holds ReadSnap against the reading by trial.
func holdSnapText(t *testing.T, text string) bool {
	t.Helper()
	want, ok := snapByTrial(text)
	if ok {
		wantSnap(t, text, want)
	} else {
		refuseSnap(t, text)
	}
	return ok
}

func wantSnapActs(t *testing.T, d impl.Disk, s impl.Snap, want ...impl.Act) {
	t.Helper()
	if acts, ok := impl.SnapActs(d, s); !ok || !slices.Equal(acts, want) {
		t.Errorf("SnapActs(%s, %s) = %s, %v; want %s, true", shown(d), shownSnap(s), shownActs(acts...), ok, shownActs(want...))
	}
}

func refuseSnapActs(t *testing.T, d impl.Disk, s impl.Snap) {
	t.Helper()
	if acts, ok := impl.SnapActs(d, s); ok || len(acts) != 0 {
		t.Errorf("SnapActs(%s, %s) = %s, %v; want nothing", shown(d), shownSnap(s), shownActs(acts...), ok)
	}
}

func wantNewest(t *testing.T, d impl.Disk, want impl.Snap) {
	t.Helper()
	if s, ok := impl.NewestSnap(d); !ok || !sameSnap(s, want) {
		t.Errorf("NewestSnap(%s) = %s, %v; want %s, true", shown(d), shownSnap(s), ok, shownSnap(want))
	}
}

// refuseNewest: where there is no newest one, nothing is shed either.
func refuseNewest(t *testing.T, d impl.Disk) {
	t.Helper()
	if s, ok := impl.NewestSnap(d); ok || !emptySnap(s) {
		t.Errorf("NewestSnap(%s) = %s, %v; want nothing", shown(d), shownSnap(s), ok)
	}
	wantShed(t, d)
}

func wantShed(t *testing.T, d impl.Disk, want ...impl.Act) {
	t.Helper()
	if acts := impl.ShedActs(d); !slices.Equal(acts, want) {
		t.Errorf("ShedActs(%s) = %s; want %s", shown(d), shownActs(acts...), shownActs(want...))
	}
}

func TestSnapName(t *testing.T) {
	for index, want := range map[int]string{
		0: "s0", 1: "s1", 9: "s9", 10: "s10", 99: "s99", 100: "s100", 999: "s999", 1000: "s1000", 123456: "s123456",
		impl.MaxIndex - 1: "s999999", impl.MaxIndex: "s1000000", impl.MaxIndex + 1: "", impl.MaxIndex + 2: "", impl.MaxNumber: "", impl.MaxNumber + 1: "",
		-1: "", -2: "", -999999: "", math.MinInt: "", math.MaxInt: "",
	} {
		if got := impl.SnapName(index); got != want {
			t.Errorf("SnapName(%d) = %q; want %q", index, got, want)
		}
	}
	for index := -2000; index <= 12000; index++ {
		want := ""
		if index >= 0 {
			want = fmt.Sprintf("s%d", index)
		}
		if got := impl.SnapName(index); got != want {
			t.Errorf("SnapName(%d) = %q; want %q", index, got, want)
		}
	}
	// A file may have the longest name that there is.
	if len(impl.SnapName(impl.MaxIndex)) > impl.MaxName {
		t.Error("the greatest SnapName is none for a file")
	}
}

func TestSnapTextBytes(t *testing.T) {
	for _, c := range []struct {
		snap   impl.Snap
		fields string
	}{
		{snapOf(3, 1, "b", 1), "\x03\x01\x01\x01\x01b"},
		{snapOf(0, 0, "", 1), "\x00\x00\x01\x01\x00"},
		{snapOf(300, 128, "two", 1, 3, 4), "\xac\x02\x80\x01\x03\x01\x03\x04\x03two"},
		{snapOf(impl.MaxIndex, impl.MaxTerm, "\x00\xff", 1, 2, 3, 4), "\xc0\x84\x3d\xa0\x8d\x06\x04\x01\x02\x03\x04\x02\x00\xff"},
		{snapOf(1, 2, longText(128), 2), "\x01\x02\x01\x02\x80\x01" + longText(128)},
	} {
		if text, ok := impl.SnapText(c.snap); !ok || text != c.fields+sealByBits(c.fields) {
			t.Errorf("SnapText(%s) = %.40q, %v; want %.40q and its seal, true", shownSnap(c.snap), text, ok, c.fields)
		}
	}
	for _, s := range rightSnaps() {
		if text, ok := impl.SnapText(s); !ok || text != snapByHand(s) || !rightSnapByHand(s) {
			t.Errorf("SnapText(%s) = %.40q, %v; want %.40q, true", shownSnap(s), text, ok, snapByHand(s))
		}
	}
}

func TestSnapTextRefuses(t *testing.T) {
	for _, s := range wrongSnaps() {
		refuseSnapText(t, s)
	}
}

// What counts is the whole of the text, with its seal.
func TestSnapTextAtMaxText(t *testing.T) {
	for size := impl.MaxText - 10; size <= impl.MaxText; size++ {
		s := sizedSnap(t, 9, size)
		if text, ok := impl.SnapText(s); !ok || len(text) != size || text != snapByHand(s) {
			t.Errorf("SnapText(%s) has %d bytes, %v; want %d, true", shownSnap(s), len(text), ok, size)
		}
		wantSnap(t, snapByHand(s), s)
	}
	for size := impl.MaxText + 1; size <= impl.MaxText+12; size++ {
		s := sizedSnap(t, 9, size)
		refuseSnapText(t, s)
		refuseSnap(t, snapByHand(s))
		refuseSnapActs(t, otherFiles(), s)
	}
}

// Promise 8: a right snapshot comes back from its text.
func TestSnapsComeBack(t *testing.T) {
	for _, s := range rightSnaps() {
		text, ok := impl.SnapText(s)
		if !ok {
			t.Fatalf("SnapText(%s) is false", shownSnap(s))
		}
		wantSnap(t, text, s)
	}
	next := draws(8)
	for range 2000 {
		conf := rightConfs()[next(15)]
		s := snapOf(next(1000001), next(100001), longText(next(400)), conf...)
		text, ok := impl.SnapText(s)
		if !ok || text != snapByHand(s) {
			t.Fatalf("SnapText(%s) = %.40q, %v", shownSnap(s), text, ok)
		}
		wantSnap(t, text, s)
	}
}

// One byte turned, at every place, to every other byte.
func TestReadSnapOfTurnedBytes(t *testing.T) {
	for _, s := range []impl.Snap{snapOf(3, 1, "b", 1), snapOf(0, 0, "", 2), snapOf(300, 128, "some text", 1, 3, 4)} {
		text := snapByHand(s)
		for at := range len(text) {
			for turn := 1; turn < 256; turn++ {
				refuseSnap(t, text[:at]+string([]byte{text[at] ^ byte(turn)})+text[at+1:])
			}
		}
	}
	long := snapByHand(sizedSnap(t, 5, impl.MaxText))
	for at := 0; at < len(long); at += 997 {
		refuseSnap(t, long[:at]+string([]byte{long[at] ^ 1})+long[at+1:])
	}
}

func TestReadSnapOfCutTexts(t *testing.T) {
	for _, s := range []impl.Snap{snapOf(3, 1, "b", 1), snapOf(0, 0, "", 2), snapOf(300, 128, longText(150), 1, 3, 4)} {
		text, fields := snapByHand(s), fieldsByHand(s)
		for cut := range len(text) {
			refuseSnap(t, text[:cut])
			refuseSnap(t, text[len(text)-cut:])
		}
		// Sealed anew, fields that are cut, or have something behind, are no snapshot either.
		for cut := range len(fields) {
			refuseSnap(t, sealedByHand(fields[:cut]))
		}
		for _, more := range []string{"\x00", "x", "\x80", "\x00\x00", fields} {
			refuseSnap(t, sealedByHand(fields+more))
			refuseSnap(t, text+more)
			refuseSnap(t, more+text)
		}
		refuseSnap(t, text+text)
		refuseSnap(t, sealedByHand(text))
		wantSnap(t, text, s)
	}
	for _, text := range []string{"", "x", "\x00", "\x00\x00\x00\x00", sealByBits(""), sealedByHand(""), sealedByHand("x"), longText(impl.MaxText), longText(impl.MaxText + 1), longText(3 * impl.MaxText)} {
		refuseSnap(t, text)
	}
}

// What is rightly sealed, but tells what no right snapshot has.
func TestReadSnapRefusesWrongSnaps(t *testing.T) {
	for _, s := range wrongSnaps() {
		if s.Index >= 0 && s.Term >= 0 && !slices.ContainsFunc(s.Conf, func(node int) bool { return node < 0 || node > 255 }) {
			refuseSnap(t, snapByHand(s))
		}
	}
	for _, conf := range []string{"", "\x00", "\x05", "\xff", "\x02\x01", "\x01\x01", "\x00\x01", "\x01\x05", "\x01\x02\x03\x05", "\x01\x02\x03\x04\x05", longText(200)} {
		refuseSnap(t, sealedByHand("\x03\x01"+numberByHand(len(conf))+conf+"\x01b"))
	}
}

func TestReadSnapRefusesLongerForms(t *testing.T) {
	for _, n := range []int{0, 1, 2, 3, 4, 127, 128, 300} {
		for _, form := range append(longerForms(n), "\x80\x80\x80\x80\x80\x80\x00") {
			refuseSnap(t, sealedByHand(form+"\x01\x01\x01\x01b"))
			refuseSnap(t, sealedByHand("\x01"+form+"\x01\x01\x01b"))
			refuseSnap(t, sealedByHand("\x01\x01"+form+longText(n)+"\x01b"))
			refuseSnap(t, sealedByHand("\x01\x01\x01\x01"+form+longText(n)))
		}
		wantSnap(t, sealedByHand(numberByHand(n)+"\x01\x01\x01\x01b"), snapOf(n, 1, "b", 1))
		wantSnap(t, sealedByHand("\x01"+numberByHand(n)+"\x01\x01\x01b"), snapOf(1, n, "b", 1))
		wantSnap(t, sealedByHand("\x01\x01\x01\x01"+numberByHand(n)+longText(n)), snapOf(1, 1, longText(n), 1))
	}
	// A length that tells more, or less, than there is.
	for _, fields := range []string{"\x01\x01\x01\x01\x02b", "\x01\x01\x01\x01\x00b", "\x01\x01\x02\x01\x01b", "\x01\x01\x05\x01\x01b", "\x01\x01\x01\x01\xff\xff\xff\xff\x03b", "\x01\x01\x01\x01\xa1\x9c\x01b"} {
		refuseSnap(t, sealedByHand(fields))
	}
}

// Texts that are, or are almost, those of a snapshot, held against a reading by trial.
func TestDrawnSnapTexts(t *testing.T) {
	next := draws(88)
	told := 0
	for range 6000 {
		fields := ""
		for range 2 {
			fields += numberByHand([]int{next(3), next(200), 99999 + next(3), 999999 + next(3)}[next(4)])
		}
		conf := confByHand([]int{1 + next(2), 2 + next(2), 3 + next(3)}[next(3):])
		body := longText(next(140))
		fields += numberByHand(len(conf)+next(20)/19) + conf + numberByHand(len(body)+next(20)/19) + body
		if next(10) == 0 {
			fields = fields[:next(len(fields)+1)]
		}
		if holdSnapText(t, sealedByHand(fields)) {
			told++
		}
	}
	if told < 1000 {
		t.Errorf("only %d of the texts drawn tell a snapshot", told)
	}
}

func TestSnapActs(t *testing.T) {
	s := snapOf(3, 1, "b", 1)
	text := snapByHand(s)
	acts := []impl.Act{add("s+", text), keep("s+"), move("s+", "s3")}
	wantSnapActs(t, diskOf(), s, acts...)
	wantSnapActs(t, otherFiles(), s, acts...)
	wantSnapActs(t, with(otherFiles(), "s3", "whatever"), s, acts...)
	wantSnapActs(t, with(otherFiles(), "s3", text), s, acts...)
	wantSnapActs(t, with(otherFiles(), "s2", "whatever"), s, append(slices.Clone(acts), drop("s2"))...)
	wantSnapActs(t, with(otherFiles(), "s2", text), s, append(slices.Clone(acts), drop("s2"))...)
	for _, rest := range []string{"", "torn", text} {
		wantSnapActs(t, with(otherFiles(), "s+", rest), s, append([]impl.Act{drop("s+")}, acts...)...)
	}
	// Several: less and greater, its own among them, in the order of names, in which s10 is ahead of s9.
	d := withSnaps(otherFiles(), snapOf(0, 0, "", 1), snapOf(9, 0, "", 1), snapOf(10, 0, "", 1), snapOf(3, 1, "x", 1), snapOf(impl.MaxIndex, 0, "", 1))
	wantSnapActs(t, d, s, append(slices.Clone(acts), drop("s0"), drop("s10"), drop("s1000000"), drop("s9"))...)
	wantSnapActs(t, with(d, "s+", "x"), s, append(append([]impl.Act{drop("s+")}, acts...), drop("s0"), drop("s10"), drop("s1000000"), drop("s9"))...)
	for _, index := range []int{0, 9, 10, 11, impl.MaxIndex - 1, impl.MaxIndex} {
		s := snapOf(index, 5, "y", 1, 2)
		want := []impl.Act{add("s+", snapByHand(s)), keep("s+"), move("s+", fmt.Sprint("s", index))}
		for _, other := range []int{0, 10, impl.MaxIndex, 3, 9} {
			if other != index {
				want = append(want, drop(fmt.Sprint("s", other)))
			}
		}
		wantSnapActs(t, d, s, want...)
	}
	// What is kept of the files, and how many there are, is not asked for.
	wantSnapActs(t, diskOf(file("s+", "ab", 1), file("s2", "abc", 0)), s, append(append([]impl.Act{drop("s+")}, acts...), drop("s2"))...)
	wantSnapActs(t, manyFiles(impl.MaxFiles), s, acts...)
	for _, s := range rightSnaps() {
		for _, d := range append(rightDisks(), d, with(d, "s+", "x")) {
			want, _ := snapActsByHand(d, s)
			wantSnapActs(t, d, s, want...)
		}
	}
}

// The last chunk is shorter, or as long as the others: it is never empty.
func TestSnapActsChunks(t *testing.T) {
	for size, chunks := range map[int]int{
		10: 1, impl.SnapChunk - 1: 1, impl.SnapChunk: 1, impl.SnapChunk + 1: 2,
		2*impl.SnapChunk - 1: 2, 2 * impl.SnapChunk: 2, 2*impl.SnapChunk + 1: 3, 5 * impl.SnapChunk: 5,
		impl.MaxText - 1: 334, impl.MaxText: 334, impl.MaxText - 20: 333, impl.MaxText - 19: 334, impl.MaxText - 21: 333,
	} {
		s := sizedSnap(t, 9, size)
		for _, d := range []impl.Disk{diskOf(), with(otherFiles(), "s+", "x"), with(otherFiles(), "s4", "x")} {
			acts, ok := impl.SnapActs(d, s)
			if len(dropNewByHand(d)) == 1 && len(acts) > 0 && acts[0] == drop("s+") {
				acts = acts[1:]
			}
			if !ok || len(acts) != chunks+2+len(snapDropsByHand(d, 9)) {
				t.Fatalf("SnapActs of %d bytes = %s, %v; want %d chunks", size, shownActs(acts...), ok, chunks)
			}
			text := ""
			for at, a := range acts[:chunks] {
				if a != add("s+", a.Text) || at+1 < chunks && len(a.Text) != impl.SnapChunk || len(a.Text) < 1 || len(a.Text) > impl.SnapChunk {
					t.Errorf("the chunk %d of %d bytes is %s", at, size, shownActs(a))
				}
				text += a.Text
			}
			if text != snapByHand(s) || !slices.Equal(acts[chunks:chunks+2], []impl.Act{keep("s+"), move("s+", "s9")}) {
				t.Errorf("the chunks of %d bytes come to %.40q, with %s behind", size, text, shownActs(acts[chunks:]...))
			}
		}
	}
}

func TestSnapActsRefuse(t *testing.T) {
	s := snapOf(3, 1, "b", 1)
	text := snapByHand(s)
	for _, wrong := range wrongSnaps() {
		refuseSnapActs(t, diskOf(), wrong)
		refuseSnapActs(t, with(otherFiles(), "s+", "x"), wrong)
		refuseSnapActs(t, with(otherFiles(), "s3", text), wrong)
	}
	for _, d := range wrongDisks() {
		refuseSnapActs(t, d, s)
		refuseSnapActs(t, d, impl.Snap{})
		refuseSnapActs(t, impl.Disk{Files: append(slices.Clone(d.Files), file("s3", text, len(text)))}, s)
		refuseSnapActs(t, impl.Disk{Files: append([]impl.File{file("s+", "x", 1)}, d.Files...)}, s)
	}
	for _, d := range []impl.Disk{diskOf(file("s3", text, len(text)+1)), diskOf(file("s3", text, -1)), diskOf(file("s3", text, 0), file("s2", text, 0)), diskOf(file("s10000000", text, 0))} {
		refuseSnapActs(t, d, s)
	}
}

// snapDisks are right, all kept, with none, one and several snapshots, some of them with a file NameSnapNew, or with files that tell nothing.
func snapDisks() (list []impl.Disk) {
	zero, two, nine, ten, most := snapOf(0, 0, "", 1), snapOf(2, 1, "two", 1, 2), snapOf(9, 2, longText(150), 1, 2, 3), snapOf(10, 2, "ten", 2), snapOf(impl.MaxIndex, 7, "most", 4)
	for _, d := range []impl.Disk{
		diskOf(), otherFiles(),
		withSnaps(diskOf(), zero), withSnaps(otherFiles(), zero), withSnaps(otherFiles(), two), withSnaps(otherFiles(), nine), withSnaps(diskOf(), most),
		withSnaps(otherFiles(), zero, two), withSnaps(otherFiles(), nine, ten), withSnaps(otherFiles(), zero, two, nine, ten, most),
		// A greater name that tells another index, or none, does not count.
		with(withSnaps(otherFiles(), two), "s500", snapByHand(nine)), with(withSnaps(otherFiles(), nine), "s10", "torn"), with(otherFiles(), "s5", snapByHand(two)),
	} {
		list = append(list, d, with(d, "s+", ""), with(d, "s+", snapByHand(ten)), with(d, "s+", longText(impl.MaxText)))
	}
	return list
}

// someSnaps are less and greater than those of snapDisks, and some of the same Index; their texts have one chunk and more.
func someSnaps(t *testing.T) (list []impl.Snap) {
	for _, index := range []int{0, 1, 2, 9, 10, 11, 500, 501, impl.MaxIndex - 1, impl.MaxIndex} {
		list = append(list, snapOf(index, 3, "new", 1, 4), sizedSnap(t, index, impl.SnapChunk+len(numberByHand(index))-1), sizedSnap(t, index, 200))
	}
	return list
}

// Promise 8: the acts, done on a right disk, leave the snapshot as the newest one, and no other file with a SnapName.
func TestSnapActsAreDone(t *testing.T) {
	for _, d := range append(snapDisks(), rightDisks()...) {
		for _, s := range append(someSnaps(t), sizedSnap(t, 77, impl.MaxText)) {
			acts, ok := impl.SnapActs(d, s)
			want, _ := snapActsByHand(d, s)
			if !ok || !slices.Equal(acts, want) {
				t.Fatalf("SnapActs(%s, %s) = %s, %v; want %s, true", shown(d), shownSnap(s), shownActs(acts...), ok, shownActs(want...))
			}
			behind, done := impl.DoActs(d, acts)
			if len(d.Files) == impl.MaxFiles {
				// There is no room for one file more: nothing of the disk goes.
				if done != 0 || !sameDisk(behind, d) {
					t.Errorf("%s leave %s of a full disk", shownActs(acts...), shown(behind))
				}
				continue
			}
			if done != len(acts) || !sameDisk(behind, withSnaps(onlyOthers(d), s)) {
				t.Fatalf("%d of %s are done on %s, which leave %s", done, shownActs(acts...), shown(d), shown(behind))
			}
			wantNewest(t, behind, s)
			wantShed(t, behind)
		}
	}
}

// A full disk has room when NameSnapNew is there already.
func TestSnapActsOnAFullDisk(t *testing.T) {
	s := snapOf(3, 1, longText(100), 1)
	for _, d := range []impl.Disk{with(manyFiles(impl.MaxFiles-1), "s+", "x"), withSnaps(with(manyFiles(impl.MaxFiles-2), "s+", "x"), snapOf(2, 1, "", 1)), withSnaps(manyFiles(impl.MaxFiles-2), snapOf(2, 1, "", 1))} {
		acts, ok := impl.SnapActs(d, s)
		behind, done := impl.DoActs(d, acts)
		if !ok || done != len(acts) {
			t.Fatalf("%d of %s are done on %d files", done, shownActs(acts...), len(d.Files))
		}
		wantNewest(t, behind, s)
	}
}

// Promise 8: whatever the power leaves of the acts, the newest one is the old or the new.
func TestPowerOnSnapActs(t *testing.T) {
	newer := 0
	for _, d := range snapDisks() {
		old, there := newestByHand(d)
		for _, s := range someSnaps(t) {
			if !there || s.Index >= old.Index {
				newer++
				holdSnapPower(t, d, s)
			}
		}
	}
	if newer < 500 {
		t.Errorf("only %d were newer", newer)
	}
	holdSnapPower(t, withSnaps(otherFiles(), sizedSnap(t, 4, impl.MaxText)), sizedSnap(t, 5, 9*impl.SnapChunk))
}

func holdSnapPower(t *testing.T, d impl.Disk, s impl.Snap) {
	t.Helper()
	old, there := newestByHand(d)
	acts, ok := impl.SnapActs(d, s)
	if !ok {
		t.Fatalf("SnapActs(%s, %s) is false", shown(d), shownSnap(s))
	}
	moved := slices.Index(acts, move("s+", fmt.Sprint("s", s.Index)))
	for whole := range len(acts) + 1 {
		for _, left := range []int{0, 1, 9, impl.SnapChunk - 1, impl.SnapChunk, impl.SnapChunk + 1, 2 * impl.SnapChunk, impl.MaxText} {
			lost, ok := impl.CutActs(d, acts, whole, slices.Repeat([]int{left}, impl.MaxFiles))
			if !ok {
				t.Fatalf("CutActs(%s, %s, %d) is false", shown(d), shownActs(acts...), whole)
			}
			switch {
			case whole > moved:
				wantNewest(t, lost, s)
				holdShed(t, lost, s)
			case there:
				wantNewest(t, lost, old)
				holdShed(t, lost, old)
			default:
				refuseNewest(t, lost)
			}
			if t.Failed() {
				t.Fatalf("so behind %d of %s on %s, of which %d bytes are left", whole, shownActs(acts...), shown(d), left)
			}
		}
	}
}

// holdShed: the newest one is left alone, also when the power goes among the acts, and asks for no more; the files of other names stay.
func holdShed(t *testing.T, d impl.Disk, newest impl.Snap) {
	t.Helper()
	acts := impl.ShedActs(d)
	for cut := range len(acts) + 1 {
		half, ok := impl.CutActs(d, acts, cut, nil)
		if !ok {
			t.Fatalf("CutActs(%s, %s, %d) is false", shown(d), shownActs(acts...), cut)
		}
		wantNewest(t, half, newest)
		wantShed(t, half, acts[cut:]...)
	}
	if behind, done := impl.DoActs(d, acts); done != len(acts) || !sameDisk(behind, withSnaps(onlyOthers(d), newest)) {
		t.Errorf("%d of %s leave %s of %s", done, shownActs(acts...), shown(behind), shown(d))
	}
}

// Whatever the power leaves byte by byte of what is not kept yet, the old one stays.
func TestPowerByteByByteOnSnapActs(t *testing.T) {
	old, s := snapOf(2, 1, "old", 1), sizedSnap(t, 10, 3*impl.SnapChunk)
	d := withSnaps(diskOf(), old)
	text := snapByHand(s)
	acts, _ := impl.SnapActs(d, s)
	for whole := 1; whole <= 3; whole++ {
		for left := range whole*impl.SnapChunk + 1 {
			lost, ok := impl.CutActs(d, acts, whole, []int{left})
			if want := with(d, "s+", text[:left]); !ok || !sameDisk(lost, want) {
				t.Fatalf("the power leaves %s; want %s", shown(lost), shown(want))
			}
			wantNewest(t, lost, old)
			holdShed(t, lost, old)
			wantShed(t, lost, drop("s+"))
			// The same once more, from what is left on.
			again, ok := impl.SnapActs(lost, s)
			if behind, done := impl.DoActs(lost, again); !ok || done != len(again) || !sameDisk(behind, withSnaps(diskOf(), s)) {
				t.Fatalf("%s leave %s", shownActs(again...), shown(behind))
			}
		}
	}
}

// A lesser one than there is counts as soon as all the greater ones are gone.
func TestPowerOnActsOfAnOlderSnap(t *testing.T) {
	old, s := snapOf(20, 4, "old", 1, 2), snapOf(3, 1, "lesser", 1)
	d := withSnaps(otherFiles(), old)
	acts, _ := impl.SnapActs(d, s)
	for whole := range len(acts) + 1 {
		lost, ok := impl.CutActs(d, acts, whole, nil)
		if !ok {
			t.Fatalf("CutActs(.., %d) is false", whole)
		}
		want := old
		if whole == len(acts) {
			want = s
		}
		wantNewest(t, lost, want)
		holdShed(t, lost, want)
	}
}

func TestNewestSnap(t *testing.T) {
	for _, s := range rightSnaps() {
		name := fmt.Sprint("s", s.Index)
		text := snapByHand(s)
		wantNewest(t, diskOf(file(name, text, len(text))), s)
		wantNewest(t, diskOf(file(name, text, 0)), s)
		wantNewest(t, with(otherFiles(), name, text), s)
		wantNewest(t, with(with(otherFiles(), name, text), "s+", "torn"), s)
	}
	// Of several the greatest Index counts, which is not always the last by name, nor the one of the greatest Term.
	two, nine, ten, many := snapOf(2, 9, "two", 1), snapOf(9, 3, "nine", 1), snapOf(10, 1, "ten", 1), snapOf(100, 0, "many", 1)
	wantNewest(t, withSnaps(otherFiles(), two, nine), nine)
	wantNewest(t, withSnaps(otherFiles(), nine, ten), ten)
	wantNewest(t, withSnaps(otherFiles(), two, nine, ten), ten)
	wantNewest(t, withSnaps(otherFiles(), two, nine, ten, many), many)
	wantNewest(t, withSnaps(otherFiles(), snapOf(0, 0, "", 1)), snapOf(0, 0, "", 1))
	wantNewest(t, withSnaps(otherFiles(), snapOf(0, 5, "", 1), snapOf(1, 0, "x", 1)), snapOf(1, 0, "x", 1))
	wantNewest(t, withSnaps(otherFiles(), many, snapOf(impl.MaxIndex, 0, "", 2)), snapOf(impl.MaxIndex, 0, "", 2))
	// As many files as a disk may have.
	full := impl.Disk{}
	for index := range impl.MaxFiles {
		full = withSnaps(full, snapOf(index, 1, fmt.Sprint(index), 1))
	}
	wantNewest(t, full, snapOf(impl.MaxFiles-1, 1, fmt.Sprint(impl.MaxFiles-1), 1))
}

// A file whose text tells another Index than its name, or none, is passed over.
func TestNewestSnapPassesOver(t *testing.T) {
	two, nine := snapOf(2, 9, "two", 1), snapOf(9, 3, "nine", 1)
	text := snapByHand(nine)
	wrong := []string{
		"", "x", text[:len(text)-1], text[1:], text + "x", fieldsByHand(nine), snapByHand(snapOf(10, 3, "nine", 1)), snapByHand(snapOf(0, 3, "nine", 1)), snapByHand(snapOf(90, 3, "nine", 1)),
		snapByHand(two), snapByHand(snapOf(9, 3, "nine")), snapByHand(snapOf(9, 3, "nine", 2, 1)), snapByHand(snapOf(9, impl.MaxTerm+1, "nine", 1)), longText(impl.MaxText),
	}
	for _, other := range wrong {
		refuseNewest(t, diskOf(file("s9", other, len(other))))
		refuseNewest(t, with(otherFiles(), "s9", other))
		refuseNewest(t, with(with(otherFiles(), "s9", other), "s+", text))
		d := with(withSnaps(otherFiles(), two), "s9", other)
		wantNewest(t, d, two)
		wantShed(t, d, drop("s9"))
		// Nor does one stand in the way that is less.
		lesser := with(withSnaps(otherFiles(), snapOf(300, 1, "", 1)), "s9", other)
		wantNewest(t, lesser, snapOf(300, 1, "", 1))
		wantShed(t, lesser, drop("s9"))
	}
	for _, index := range []int{0, 1, 3, 10, 99, impl.MaxIndex} {
		refuseNewest(t, with(otherFiles(), fmt.Sprint("s", index), snapByHand(two)))
		wantNewest(t, with(withSnaps(otherFiles(), two), fmt.Sprint("s", index), snapByHand(two)), two)
		wantShed(t, with(withSnaps(otherFiles(), two), fmt.Sprint("s", index), snapByHand(two)), drop(fmt.Sprint("s", index)))
	}
}

// A disk without a snapshot, or which is not right, has no newest one, and nothing is shed.
func TestNewestSnapRefuses(t *testing.T) {
	s := snapOf(3, 1, "b", 1)
	text := snapByHand(s)
	refuseNewest(t, diskOf())
	refuseNewest(t, otherFiles())
	refuseNewest(t, diskOf(file("s+", text, len(text))))
	for _, d := range rightDisks() {
		refuseNewest(t, d)
	}
	for _, d := range wrongDisks() {
		refuseNewest(t, d)
		refuseNewest(t, impl.Disk{Files: append(slices.Clone(d.Files), file("s3", text, len(text)))})
		refuseNewest(t, impl.Disk{Files: append([]impl.File{file("s3", text, len(text))}, d.Files...)})
	}
	refuseNewest(t, diskOf(file("s3", text, len(text)+1)))
	refuseNewest(t, diskOf(file("s3", text, -1)))
	refuseNewest(t, diskOf(file("s3", text, 0), file("s2", text, 0)))
	refuseNewest(t, diskOf(file("s3", text, 0), file("s3", text, 0)))
	refuseNewest(t, diskOf(file("s3", text, 0), file("s4", longText(impl.MaxText+1), 0)))
}

func TestShedActs(t *testing.T) {
	two, nine, ten := snapOf(2, 9, "two", 1), snapOf(9, 3, "nine", 1), snapOf(10, 1, "ten", 1)
	wantShed(t, withSnaps(otherFiles(), two))
	wantShed(t, with(withSnaps(otherFiles(), two), "s+", ""), drop("s+"))
	wantShed(t, with(withSnaps(otherFiles(), two), "s+", snapByHand(nine)), drop("s+"))
	wantShed(t, withSnaps(otherFiles(), two, nine), drop("s2"))
	wantShed(t, withSnaps(otherFiles(), two, nine, ten), drop("s2"), drop("s9"))
	wantShed(t, with(withSnaps(otherFiles(), two, nine, ten), "s+", "x"), drop("s+"), drop("s2"), drop("s9"))
	// Those that tell nothing go, too, also with a greater name; in the order of names.
	d := with(with(with(withSnaps(otherFiles(), two, nine), "s10", "torn"), "s1000000", ""), "s0", snapByHand(two))
	wantShed(t, d, drop("s0"), drop("s10"), drop("s1000000"), drop("s2"))
	wantShed(t, with(d, "s+", "x"), drop("s+"), drop("s0"), drop("s10"), drop("s1000000"), drop("s2"))
	wantShed(t, diskOf(file("s2", snapByHand(two), 0), file("s9", "", 0)), drop("s9"))
	for _, d := range snapDisks() {
		wantShed(t, d, shedByHand(d)...)
		if newest, ok := newestByHand(d); ok {
			holdShed(t, d, newest)
		}
	}
}

// Names that are almost a SnapName are none: such files are no snapshots, and stay.
func TestOtherNames(t *testing.T) {
	s := snapOf(5, 3, "five", 1)
	text := snapByHand(s)
	one, nought := snapByHand(snapOf(1, 1, "", 1)), snapByHand(snapOf(0, 1, "", 1))
	for _, name := range []string{"s", "s00", "s01", "s1000001", "S1", "s05", "s005", "s-1", "s-0", "s 1", "s1 ", " s1", "ss1", "s1s", "s9999999", "s2000000", "s+1", "s++", "+s", "s+ ", "r1", "t1", "1", "0", "100", "j5", "j+", "s\x00", "s1\x00", "s0x1", "s1e1", "s１", "sA", "S+", "s-"} {
		for _, other := range []string{"x", text, one, nought, snapByHand(snapOf(impl.MaxIndex, 1, "", 1))} {
			refuseNewest(t, diskOf(file(name, other, len(other))))
			d := with(withSnaps(diskOf(), s), name, other)
			wantNewest(t, d, s)
			wantShed(t, d)
			wantShed(t, with(with(d, "s3", "y"), "s+", "z"), drop("s+"), drop("s3"))
			now := snapOf(6, 3, "six", 1)
			acts := []impl.Act{add("s+", snapByHand(now)), keep("s+"), move("s+", "s6"), drop("s5")}
			wantSnapActs(t, d, now, acts...)
			if behind, done := impl.DoActs(d, acts); done != 4 || !sameDisk(behind, withSnaps(with(diskOf(), name, other), now)) {
				t.Errorf("%d of %s leave %s of %s", done, shownActs(acts...), shown(behind), shown(d))
			}
		}
	}
}

// Lives drawn: snapshots come, greater and less, the power goes now and then, and by-hand answers are held against each.
func TestDrawnSnaps(t *testing.T) {
	next := draws(888)
	d := withSnaps(otherFiles(), snapOf(0, 0, "", 1))
	old := snapOf(0, 0, "", 1)
	cuts, stayed := 0, 0
	for range 3000 {
		s := snapOf(min(old.Index+next(4), impl.MaxIndex), next(9), longText(next(300)), rightConfs()[next(15)]...)
		if next(6) == 0 {
			s.Index = next(12)
		}
		// A file comes by that tells nothing, or some Index, but not in the place of the newest one.
		if index := next(400); index != old.Index && next(9) == 0 {
			d = with(d, fmt.Sprint("s", index), []string{"", "torn", snapByHand(snapOf(next(9), 0, "", 1))}[next(3)])
			old, _ = newestByHand(d)
		}
		acts, ok := impl.SnapActs(d, s)
		want, _ := snapActsByHand(d, s)
		if !ok || !slices.Equal(acts, want) {
			t.Fatalf("SnapActs(%s, %s) = %s, %v; want %s, true", shown(d), shownSnap(s), shownActs(acts...), ok, shownActs(want...))
		}
		whole, left := len(acts), []int{}
		if next(2) == 0 {
			whole = next(len(acts) + 1)
			left = drawnLeft(next, d, acts[:whole])
			cuts++
		}
		lost, _ := impl.CutActs(d, acts, whole, left)
		newest, ok := newestByHand(lost)
		if !ok || s.Index >= old.Index && !sameSnap(newest, old) && !sameSnap(newest, s) {
			t.Fatalf("the power leaves %s of %s and %s", shown(lost), shownSnap(old), shownSnap(s))
		}
		wantNewest(t, lost, newest)
		if !sameSnap(newest, s) {
			stayed++
		}
		shed := impl.ShedActs(lost)
		if !slices.Equal(shed, shedByHand(lost)) {
			t.Fatalf("ShedActs(%s) = %s; want %s", shown(lost), shownActs(shed...), shownActs(shedByHand(lost)...))
		}
		if next(3) > 0 {
			lost, _ = impl.DoActs(lost, shed[:next(len(shed)+1)])
		}
		wantNewest(t, lost, newest)
		d, old = lost, newest
	}
	if cuts < 1000 || stayed < 500 {
		t.Errorf("the power went %d times, and %d stayed", cuts, stayed)
	}
}

// Snapshots and disks whose lists have room behind them: nothing is written into them, or there, and no answer lies in them.
func TestSnapArgumentsStay(t *testing.T) {
	conf := []int{1, 2, 3, 4}
	s := impl.Snap{Index: 9, Term: 2, Conf: conf[:2], Body: longText(100)}
	files := withSnaps(with(otherFiles(), "s+", "x"), snapOf(2, 1, "two", 1), snapOf(7, 1, "seven", 1, 2)).Files
	files = append(files, file("u", "spare", 5), file("v", "spare", 5))
	confBefore, filesBefore := slices.Clone(conf), slices.Clone(files)
	d := impl.Disk{Files: files[:len(files)-2]}
	stayed := func(what string) {
		t.Helper()
		if !slices.Equal(conf, confBefore) || !slices.Equal(files, filesBefore) {
			t.Fatalf("%s wrote into an argument, or its answer lies in one", what)
		}
	}
	impl.SnapText(s)
	stayed("SnapText")
	acts, ok := impl.SnapActs(d, s)
	stayed("SnapActs")
	if !ok || len(acts) < 5 {
		t.Fatalf("SnapActs = %s, %v", shownActs(acts...), ok)
	}
	clear(acts[:cap(acts)])
	stayed("SnapActs")
	newest, ok := impl.NewestSnap(d)
	stayed("NewestSnap")
	if !ok || len(newest.Conf) != 2 {
		t.Fatalf("NewestSnap = %s, %v", shownSnap(newest), ok)
	}
	clear(newest.Conf[:cap(newest.Conf)])
	stayed("NewestSnap")
	shed := impl.ShedActs(d)
	stayed("ShedActs")
	if len(shed) != 2 {
		t.Fatalf("ShedActs = %s", shownActs(shed...))
	}
	clear(shed[:cap(shed)])
	stayed("ShedActs")
	wantNewest(t, d, snapOf(7, 1, "seven", 1, 2))
	wantShed(t, d, drop("s+"), drop("s2"))
	want, _ := snapActsByHand(d, s)
	wantSnapActs(t, d, s, want...)
}

func TestSnapsAreNew(t *testing.T) {
	s := snapOf(9, 2, strings.Clone("the body of a snapshot"), 1, 2)
	text := strings.Clone(snapByHand(s))
	read, ok := impl.ReadSnap(text)
	if !ok || read.Body != s.Body || liesIn(read.Body, text) {
		t.Error("ReadSnap answers with the memory of its argument")
	}
	if written, ok := impl.SnapText(s); !ok || liesIn(s.Body, written) {
		t.Error("SnapText answers with the memory of its argument")
	}
	stale, name, new := strings.Clone("s3"), strings.Clone("s9"), strings.Clone("s+")
	d := diskOf(file(new, "x", 1), file(stale, "y", 1), file(name, text, len(text)))
	newest, ok := impl.NewestSnap(d)
	if !ok || newest.Body != s.Body || liesIn(newest.Body, text) {
		t.Error("NewestSnap answers with the memory of its argument")
	}
	acts, ok := impl.SnapActs(d, s)
	for _, a := range append(acts, impl.ShedActs(d)...) {
		if liesIn(a.Name, stale) || liesIn(a.Name, new) || liesIn(a.To, name) || a.Text != "" && liesIn(a.Text, s.Body) {
			t.Errorf("%s has the memory of an argument", shownActs(a))
		}
	}
	if !ok || len(acts) != 5 {
		t.Errorf("SnapActs = %s, %v", shownActs(acts...), ok)
	}
}

func TestSnapConstants(t *testing.T) {
	if impl.SnapChunk != 60 || impl.NameSnapNew != "s+" {
		t.Errorf("SnapChunk and NameSnapNew are %d and %q", impl.SnapChunk, impl.NameSnapNew)
	}
}
