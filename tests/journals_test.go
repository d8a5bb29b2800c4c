package tests

import (
	"fmt"
	"math"
	"slices"
	"strings"
	"testing"

	"loop.example/g00127/impl"
)

func journalOf(number, term, vote int, l impl.Log) impl.Journal {
	return impl.Journal{Number: number, Term: term, Vote: vote, Log: l}
}

func beginByHand(start, term int) string { return "B" + numberByHand(start) + numberByHand(term) }
func voteByHand(term, vote int) string   { return "H" + numberByHand(term) + numberByHand(vote) }

// recordsByHand are what stands in the frames of a journal's file.
func recordsByHand(j impl.Journal) []string {
	records := []string{beginByHand(j.Log.Start, j.Log.StartTerm), voteByHand(j.Term, j.Vote)}
	for at, e := range j.Log.Entries {
		records = append(records, entryByHand(j.Log.Start+at+1, e))
	}
	return records
}

func framesOf(records ...string) string {
	text, _ := fileByHand(records...)
	return text
}

func journalByHand(j impl.Journal) string { return framesOf(recordsByHand(j)...) }

// paddedFile tells j in just size bytes: the frames that fill it stand behind the first, and tell Terms that do not last.
func paddedFile(t *testing.T, j impl.Journal, size int) string {
	t.Helper()
	records := recordsByHand(j)
	missing := size - len(journalByHand(j))
	count := missing / 8
	more := missing - 8*count
	if missing < 0 || more > 2*count {
		t.Fatalf("no file of %d bytes tells %s", size, shownJournal(j))
	}
	for range count {
		// A Term of one byte, of two and of three.
		longer := min(2, more)
		more -= longer
		records = slices.Insert(records, 1, voteByHand([]int{7, 300, 50000}[longer], 3))
	}
	if text := framesOf(records...); len(text) == size {
		return text
	}
	t.Fatalf("the file of %s has not %d bytes", shownJournal(j), size)
	return ""
}

func rightJournalByHand(j impl.Journal) bool {
	return j.Number >= 0 && j.Number < 1000 && j.Term >= 0 && j.Term <= 100000 && j.Vote >= 0 && j.Vote < 5 && rightLogByHand(j.Log)
}

func sameJournal(a, b impl.Journal) bool {
	return a.Number == b.Number && a.Term == b.Term && a.Vote == b.Vote && sameLog(a.Log, b.Log)
}

func noJournal(j impl.Journal) bool { return sameJournal(j, impl.Journal{}) }

func numbered(j impl.Journal, number int) impl.Journal {
	j.Number = number
	return j
}

func shownJournal(j impl.Journal) string {
	return fmt.Sprintf("{Number %d, Term %d, Vote %d, %s}", j.Number, j.Term, j.Vote, shownLog(j.Log))
}

// onDisk is a disk on which all is kept: the file of a journal, and others that are none of its.
func onDisk(number int, text string) impl.Disk {
	name := fmt.Sprint("j", number)
	return diskOf(file("a", "other", 5), file(name, text, len(text)), file("s5", "snap", 4))
}

// without is the disk but for a file.
func without(d impl.Disk, name string) impl.Disk {
	return impl.Disk{Files: slices.DeleteFunc(slices.Clone(d.Files), func(f impl.File) bool { return f.Name == name })}
}

// with is the disk with a file more, all of which is kept, in its place by Name.
func with(d impl.Disk, name, text string) impl.Disk {
	more := append(without(d, name).Files, file(name, text, len(text)))
	slices.SortFunc(more, func(a, b impl.File) int { return strings.Compare(a.Name, b.Name) })
	return impl.Disk{Files: more}
}

// rightJournals meet each limit that the chapter names, and stay within the others.
func rightJournals() (list []impl.Journal) {
	for _, l := range rightLogs() {
		list = append(list, journalOf(0, 0, 0, l), journalOf(3, 300, 2, l))
	}
	for _, term := range edgeTerms {
		list = append(list, journalOf(1, term, 1, logOf(4, 1, none(1))))
	}
	for vote := range impl.MaxNodes + 1 {
		list = append(list, journalOf(impl.MaxSegment, impl.MaxTerm, vote, logOf(9, 9, command(9, "x"), none(10))))
	}
	return append(list, journalOf(impl.MaxSegment, 0, 0, impl.Log{}), journalOf(impl.MaxSegment-1, 1, 1, logOf(1, 1, none(2))), greatestJournal(0))
}

// greatestJournal has the longest text that there is: all numbers have three bytes, all Data MaxData.
func greatestJournal(number int) impl.Journal {
	e := command(impl.MaxTerm, longText(impl.MaxData))
	return journalOf(number, impl.MaxTerm, impl.MaxNodes, logOf(impl.MaxIndex-impl.MaxLog, impl.MaxTerm, slices.Repeat([]impl.Entry{e}, impl.MaxLog)...))
}

func wrongJournals() (list []impl.Journal) {
	l := logOf(2, 1, none(1), command(2, "x"))
	for _, n := range []int{-1, -2, impl.MaxSegment + 1, impl.MaxSegment + 2, 10000, math.MinInt, math.MaxInt} {
		list = append(list, journalOf(n, 2, 1, l), journalOf(n, 0, 0, impl.Log{}))
	}
	for _, term := range wrongTerms {
		list = append(list, journalOf(1, term, 1, l), journalOf(0, term, 0, impl.Log{}))
	}
	for _, vote := range []int{-1, -2, impl.MaxNodes + 1, impl.MaxNodes + 2, 255, 256, 257, math.MinInt, math.MaxInt} {
		list = append(list, journalOf(1, 2, vote, l), journalOf(0, 0, vote, impl.Log{}))
	}
	for _, wrong := range wrongLogs() {
		list = append(list, journalOf(0, 5, 1, wrong))
	}
	return list
}

// readByHand goes through the frames that unframeByTrial finds.
func readByHand(n int, text string) (impl.Journal, int, bool) {
	records, _ := unframeByTrial(text)
	j := impl.Journal{Number: n}
	place := 0
	for at, record := range records {
		ok := false
		if at == 0 {
			j.Log.Start, j.Log.StartTerm, ok = pairByTrial("B", record, 1000000, 100000)
		} else if term, vote, is := pairByTrial("H", record, 100000, 4); is {
			j.Term, j.Vote, ok = term, vote, true
		} else if index, e, is := entryByTrial(record); is {
			var put impl.Log
			if put, ok = putByHand(j.Log, index, e); ok {
				j.Log = put
			}
		}
		if !ok {
			break
		}
		place += len(frameByHand(record))
	}
	if place == 0 || n < 0 || n > 999 {
		return impl.Journal{}, 0, false
	}
	return j, place, true
}

// pairByTrial tries each place between two numbers, and writes what that gives once more.
func pairByTrial(mark, record string, mostFirst, mostSecond int) (int, int, bool) {
	number := func(bytes string) (n int) {
		for at := len(bytes) - 1; at >= 0; at-- {
			n = n*128 + int(bytes[at])%128
		}
		return n
	}
	for cut := 2; cut <= 4 && cut < len(record) && len(record) <= 7; cut++ {
		a, b := number(record[1:cut]), number(record[cut:])
		if a <= mostFirst && b <= mostSecond && mark+numberByHand(a)+numberByHand(b) == record {
			return a, b, true
		}
	}
	return 0, 0, false
}

// newFileByHand are the acts that begin a new file in the place of an old one.
func newFileByHand(j impl.Journal, old string) []impl.Act {
	return []impl.Act{add("j+", journalByHand(j)), keep("j+"), move("j+", fmt.Sprint("j", j.Number)), drop(old)}
}

// actsByHand holds frame for frame against each other what the two journals have in theirs.
func actsByHand(d impl.Disk, old, now impl.Journal) ([]impl.Act, impl.Journal, bool) {
	if !rightByList(d) || !rightJournalByHand(old) || !rightJournalByHand(now) {
		return nil, impl.Journal{}, false
	}
	name := fmt.Sprint("j", old.Number)
	text, here := "", false
	for _, f := range d.Files {
		if f.Name == "j+" {
			return nil, impl.Journal{}, false
		}
		if f.Name == name {
			text, here = f.Text, true
		}
	}
	told, place, ok := readByHand(old.Number, text)
	if !here || !ok || place < len(text) || !sameJournal(told, old) {
		return nil, impl.Journal{}, false
	}
	had, has := recordsByHand(old), recordsByHand(now)
	for len(had) > 2 && len(has) > 2 && had[2] == has[2] {
		had, has = slices.Delete(had, 2, 3), slices.Delete(has, 2, 3)
	}
	// Where nothing of now is left, but something of old, no frame could take that away.
	if had[0] != has[0] || len(has) == 2 && len(had) > 2 || len(text) > 400 {
		then := numbered(now, old.Number+1)
		if then.Number > 999 {
			return nil, impl.Journal{}, false
		}
		return newFileByHand(then, name), then, true
	}
	added := has[1:]
	if has[1] == had[1] {
		added = has[2:]
	}
	if len(added) == 0 {
		return nil, numbered(now, old.Number), true
	}
	return []impl.Act{add(name, framesOf(added...)), keep(name)}, numbered(now, old.Number), true
}

// openByHand takes the number of a name by trying each that there is.
func openByHand(d impl.Disk) (impl.Journal, []impl.Act, bool) {
	if !rightByList(d) {
		return impl.Journal{}, nil, false
	}
	number := func(name string) int {
		for n := range 1000 {
			if name == fmt.Sprint("j", n) {
				return n
			}
		}
		return -1
	}
	last, text := -1, ""
	for _, f := range d.Files {
		if n := number(f.Name); n > last {
			last, text = n, f.Text
		}
	}
	j, place, ok := readByHand(last, text)
	if !ok {
		return impl.Journal{}, nil, false
	}
	var acts []impl.Act
	for _, f := range d.Files {
		if n := number(f.Name); f.Name == "j+" || n >= 0 && n != last {
			acts = append(acts, drop(f.Name))
		}
	}
	if place < len(text) {
		if j.Number++; j.Number > 999 {
			return impl.Journal{}, nil, false
		}
		acts = append(acts, newFileByHand(j, fmt.Sprint("j", last))...)
	}
	return j, acts, true
}

func wantRead(t *testing.T, n int, text string, want impl.Journal, place int) {
	t.Helper()
	if j, at, ok := impl.ReadJournal(n, text); !ok || at != place || !sameJournal(j, want) {
		t.Errorf("ReadJournal(%d, %.60q) of %d bytes = %s, %d, %v; want %s, %d, true", n, text, len(text), shownJournal(j), at, ok, shownJournal(want), place)
	}
}

func refuseRead(t *testing.T, n int, text string) {
	t.Helper()
	if j, at, ok := impl.ReadJournal(n, text); ok || at != 0 || !noJournal(j) {
		t.Errorf("ReadJournal(%d, %.60q) of %d bytes = %s, %d, %v; want nothing", n, text, len(text), shownJournal(j), at, ok)
	}
}

func wantActs(t *testing.T, d impl.Disk, old, now impl.Journal, then impl.Journal, want ...impl.Act) {
	t.Helper()
	acts, j, ok := impl.JournalActs(d, old, now)
	if !ok || !slices.Equal(acts, want) || !sameJournal(j, then) {
		t.Errorf("JournalActs(%s, %s, %s) = %s, %s, %v; want %s, %s, true", shown(d), shownJournal(old), shownJournal(now), shownActs(acts...), shownJournal(j), ok, shownActs(want...), shownJournal(then))
	}
}

func refuseActs(t *testing.T, d impl.Disk, old, now impl.Journal) {
	t.Helper()
	if acts, j, ok := impl.JournalActs(d, old, now); ok || len(acts) != 0 || !noJournal(j) {
		t.Errorf("JournalActs(%s, %s, %s) = %s, %s, %v; want nothing", shown(d), shownJournal(old), shownJournal(now), shownActs(acts...), shownJournal(j), ok)
	}
}

func wantOpen(t *testing.T, d impl.Disk, want impl.Journal, acts ...impl.Act) {
	t.Helper()
	if j, list, ok := impl.OpenJournal(d); !ok || !sameJournal(j, want) || !slices.Equal(list, acts) {
		t.Errorf("OpenJournal(%s) = %s, %s, %v; want %s, %s, true", shown(d), shownJournal(j), shownActs(list...), ok, shownJournal(want), shownActs(acts...))
	}
}

func refuseOpen(t *testing.T, d impl.Disk) {
	t.Helper()
	if j, list, ok := impl.OpenJournal(d); ok || !noJournal(j) || len(list) != 0 {
		t.Errorf("OpenJournal(%s) = %s, %s, %v; want nothing", shown(d), shownJournal(j), shownActs(list...), ok)
	}
}

func TestJournalName(t *testing.T) {
	for n, want := range map[int]string{0: "j0", 1: "j1", 7: "j7", 9: "j9", 10: "j10", 99: "j99", 100: "j100", 998: "j998", impl.MaxSegment: "j999", impl.MaxSegment + 1: "", impl.MaxSegment + 2: "", 10000: "", -1: "", -2: "", -999: "", math.MinInt: "", math.MaxInt: ""} {
		if got := impl.JournalName(n); got != want {
			t.Errorf("JournalName(%d) = %q; want %q", n, got, want)
		}
	}
	for n := -1000; n <= 2000; n++ {
		want := ""
		if n >= 0 && n < 1000 {
			want = fmt.Sprintf("j%d", n)
		}
		if got := impl.JournalName(n); got != want {
			t.Errorf("JournalName(%d) = %q; want %q", n, got, want)
		}
	}
}

func TestJournalOk(t *testing.T) {
	for _, j := range rightJournals() {
		if !impl.JournalOk(j) || !rightJournalByHand(j) {
			t.Errorf("JournalOk(%s) is false", shownJournal(j))
		}
	}
	for _, j := range wrongJournals() {
		if impl.JournalOk(j) || rightJournalByHand(j) {
			t.Errorf("JournalOk(%s) is true", shownJournal(j))
		}
	}
	// A Term may be less than those of the log: nothing is said of the two.
	if !impl.JournalOk(journalOf(0, 1, 0, logOf(0, 5, none(7)))) {
		t.Error("JournalOk asks for a Term that is not below the log's")
	}
}

func TestJournalTextBytes(t *testing.T) {
	j := journalOf(7, 300, 2, logOf(5, 1, none(1), command(130, "ab"), confEntry(130, 1, 3)))
	want := frameByHand("B\x05\x01") + frameByHand("H\xac\x02\x02") + frameByHand("E\x06\x01\x01") + frameByHand("E\x07\x82\x01\x03ab") + frameByHand("E\x08\x82\x01\x02\x01\x03")
	if s, ok := impl.JournalText(j); !ok || s != want {
		t.Errorf("JournalText = %q, %v; want %q, true", s, ok, want)
	}
	want = "\x03" + sealByBits("B\x00\x00") + "B\x00\x00" + "\x03" + sealByBits("H\x00\x00") + "H\x00\x00"
	if s, ok := impl.JournalText(impl.Journal{}); !ok || s != want {
		t.Errorf("JournalText of a journal without anything = %q, %v; want %q, true", s, ok, want)
	}
	for _, j := range rightJournals() {
		if s, ok := impl.JournalText(j); !ok || s != journalByHand(j) {
			t.Errorf("JournalText(%s) = %.60q, %v; want %.60q, true", shownJournal(j), s, ok, journalByHand(j))
		}
		// The Number stands in the name alone.
		one, _ := impl.JournalText(j)
		if other, _ := impl.JournalText(numbered(j, 500)); one != other {
			t.Errorf("JournalText(%s) tells its Number", shownJournal(j))
		}
	}
}

func TestJournalTextRefuses(t *testing.T) {
	for _, j := range wrongJournals() {
		if s, ok := impl.JournalText(j); ok || s != "" {
			t.Errorf("JournalText(%s) = %.60q, %v; want nothing", shownJournal(j), s, ok)
		}
	}
}

// No right journal comes near MaxText, so that none can be refused for its length.
func TestGreatestJournalText(t *testing.T) {
	s, ok := impl.JournalText(greatestJournal(0))
	if !ok || len(s) != 12+10+impl.MaxLog*134 || len(s) > impl.MaxText {
		t.Errorf("the greatest JournalText has %d bytes, %v", len(s), ok)
	}
}

// Promise 7: a right journal comes back from its file.
func TestJournalsComeBack(t *testing.T) {
	for _, j := range rightJournals() {
		s, ok := impl.JournalText(j)
		if !ok {
			t.Fatalf("JournalText(%s) is false", shownJournal(j))
		}
		wantRead(t, j.Number, s, j, len(s))
		for _, n := range []int{0, 1, 42, impl.MaxSegment} {
			wantRead(t, n, s, numbered(j, n), len(s))
		}
		wantRead(t, j.Number, s+"torn", j, len(s))
	}
}

func TestReadJournalNumbers(t *testing.T) {
	j := journalOf(0, 3, 1, logOf(2, 1, none(2)))
	for _, n := range []int{0, 1, 500, impl.MaxSegment - 1, impl.MaxSegment} {
		wantRead(t, n, journalByHand(j), numbered(j, n), len(journalByHand(j)))
	}
	for _, n := range []int{-1, -2, impl.MaxSegment + 1, impl.MaxSegment + 2, 100000, math.MinInt, math.MaxInt} {
		refuseRead(t, n, journalByHand(j))
		refuseRead(t, n, "")
		refuseRead(t, n, "torn")
	}
}

// The first frame is a B, as it is written, or nothing is told.
func TestReadJournalBegins(t *testing.T) {
	behind := framesOf(voteByHand(3, 1), entryByHand(1, none(1)))
	for _, c := range []struct{ start, term int }{{0, 0}, {0, impl.MaxTerm}, {impl.MaxIndex, 0}, {impl.MaxIndex, impl.MaxTerm}, {127, 128}, {16383, 16384}} {
		text := frameByHand(beginByHand(c.start, c.term))
		wantRead(t, 4, text, journalOf(4, 0, 0, logOf(c.start, c.term)), len(text))
		text += frameByHand(voteByHand(9, 2))
		wantRead(t, 4, text, journalOf(4, 9, 2, logOf(c.start, c.term)), len(text))
	}
	refuseRead(t, 0, "")
	refuseRead(t, 0, behind)
	for _, first := range []string{
		"B", "B\x00", "b\x00\x00", "\x00\x00", "BB\x00\x00", " B\x00\x00", "B\x00\x00\x00", "B\x00\x00B\x00\x00", "B\x80\x00\x00", "B\x00\x80\x00", "B\x80\x00", "B\x80", "B\x00\x80", "B\xff\xff\xff\xff\xff\xff\xff\xff\xff\xff\xff",
		beginByHand(impl.MaxIndex+1, 0), beginByHand(0, impl.MaxTerm+1), beginByHand(impl.MaxIndex+1, impl.MaxTerm+1), beginByHand(impl.MaxNumber, impl.MaxNumber),
		voteByHand(1, 1), voteByHand(0, 0), entryByHand(1, none(0)), "x", "H", "E", "j",
	} {
		refuseRead(t, 0, frameByHand(first))
		refuseRead(t, 0, frameByHand(first)+behind)
		// Nor is a B that stands behind it looked at.
		refuseRead(t, 0, frameByHand(first)+frameByHand("B\x00\x00")+behind)
	}
	first := frameByHand("B\x00\x00")
	for cut := range len(first) {
		refuseRead(t, 0, first[:cut])
		refuseRead(t, 0, first[:cut]+behind)
	}
	for at := range len(first) {
		turned := []byte(first)
		turned[at] ^= 16
		refuseRead(t, 0, string(turned)+behind)
	}
	refuseRead(t, 0, "\x00"+first+behind)
}

// What each further frame tells: Term and Vote anew, or an entry, behind which all is gone.
func TestReadJournalGoesOn(t *testing.T) {
	a, b, c := none(1), command(2, "b"), command(2, "c")
	begin := beginByHand(4, 1)
	for _, w := range []struct {
		records []string
		want    impl.Journal
	}{
		{[]string{begin}, journalOf(0, 0, 0, logOf(4, 1))},
		{[]string{begin, entryByHand(5, a)}, journalOf(0, 0, 0, logOf(4, 1, a))},
		{[]string{begin, entryByHand(5, a), voteByHand(7, 2)}, journalOf(0, 7, 2, logOf(4, 1, a))},
		{[]string{begin, voteByHand(7, 2), voteByHand(8, 0)}, journalOf(0, 8, 0, logOf(4, 1))},
		{[]string{begin, voteByHand(7, 2), voteByHand(0, 0)}, journalOf(0, 0, 0, logOf(4, 1))},
		{[]string{begin, voteByHand(9, 1), voteByHand(3, 4)}, journalOf(0, 3, 4, logOf(4, 1))},
		{[]string{begin, voteByHand(impl.MaxTerm, impl.MaxNodes)}, journalOf(0, impl.MaxTerm, impl.MaxNodes, logOf(4, 1))},
		{[]string{begin, entryByHand(5, a), entryByHand(6, b), entryByHand(7, c)}, journalOf(0, 0, 0, logOf(4, 1, a, b, c))},
		{[]string{begin, entryByHand(5, a), entryByHand(6, b), entryByHand(6, c)}, journalOf(0, 0, 0, logOf(4, 1, a, c))},
		{[]string{begin, entryByHand(5, a), entryByHand(6, b), entryByHand(5, c)}, journalOf(0, 0, 0, logOf(4, 1, c))},
		{[]string{begin, entryByHand(5, a), entryByHand(6, b), entryByHand(5, a)}, journalOf(0, 0, 0, logOf(4, 1, a))},
		{[]string{begin, entryByHand(5, b), entryByHand(5, a), voteByHand(5, 1), entryByHand(6, c), voteByHand(6, 3)}, journalOf(0, 6, 3, logOf(4, 1, a, c))},
	} {
		text := framesOf(w.records...)
		wantRead(t, 0, text, w.want, len(text))
		for tail := range 7 {
			// Behind these stands what is cut in its length, in its sum or in its text.
			wantRead(t, 0, text+frameByHand("H\x05\x01")[:tail], w.want, len(text))
		}
	}
}

// A frame that is none of these ends it, whole as it may be, and what stands behind that is not looked at.
func TestReadJournalStops(t *testing.T) {
	full := journalOf(2, 6, 1, longLog(10, 3, impl.MaxLog))
	atEnd := journalOf(2, 6, 1, logOf(impl.MaxIndex-1, 1, none(4)))
	ordinary := journalOf(2, 6, 1, logOf(4, 2, none(2), command(4, "b"), none(4)))
	none4 := func(index int) string { return entryByHand(index, none(4)) }
	stops := []string{
		beginByHand(4, 2), beginByHand(0, 0), "B", "B\x00", "H", "H\x01", "H\x01\x01\x01", "h\x01\x01", "\x01\x01", "H\x80\x00\x01", "H\x01\x81\x00", "H\x01\x05", "H\x01\x80\x01", "HH\x01\x01",
		voteByHand(impl.MaxTerm+1, 1), voteByHand(1, impl.MaxNodes+1), voteByHand(impl.MaxNumber, 0), voteByHand(0, impl.MaxNumber),
		"x", "\x00", "E", "e\x08\x04\x01", "E\x08", "E\x08\x04", "E\x08\x04\x00", "E\x08\x04\x04", "E\x08\x04\x01x", "E\x08\x04\x02", "E\x08\x04\x02\x02\x01", "E\x88\x00\x04\x01",
		entryByHand(8, command(4, longText(impl.MaxData+1))), entryByHand(8, none(impl.MaxTerm+1)),
		// LogPut takes none that leaves a gap, stands at Start or below, or whose Term falls.
		none4(9), none4(10), none4(4), none4(3), none4(1), none4(0), entryByHand(8, none(3)), entryByHand(7, none(3)), entryByHand(5, none(1)), none4(impl.MaxIndex), none4(impl.MaxIndex + 1),
		longText(127), longText(300),
	}
	for _, stop := range stops {
		holdStop(t, ordinary, stop)
	}
	holdStop(t, full, entryByHand(10+impl.MaxLog+1, none(impl.MaxTerm)))
	holdStop(t, full, entryByHand(10+impl.MaxLog+2, none(impl.MaxTerm)))
	holdStop(t, full, entryByHand(10, none(impl.MaxTerm)))
	holdStop(t, atEnd, entryByHand(impl.MaxIndex+1, none(4)))
	holdStop(t, atEnd, entryByHand(impl.MaxIndex-1, none(4)))
	for _, tail := range []string{"t", "torn", "\x00", "\xff\xff\xff", longText(3000), frameByHand("H\x05\x01")[1:]} {
		text := journalByHand(ordinary)
		wantRead(t, 2, text+tail, ordinary, len(text))
		wantRead(t, 2, text+tail+frameByHand(voteByHand(9, 2)), ordinary, len(text))
	}
}

func holdStop(t *testing.T, j impl.Journal, stop string) {
	t.Helper()
	text := journalByHand(j)
	for _, behind := range []string{"", frameByHand(voteByHand(9, 2)), frameByHand(entryByHand(5, none(9))), "torn"} {
		wantRead(t, j.Number, text+frameByHand(stop)+behind, j, len(text))
	}
	// And right behind the first frame.
	first := frameByHand(beginByHand(j.Log.Start, j.Log.StartTerm))
	if _, _, is := pairByTrial("H", stop, impl.MaxTerm, impl.MaxNodes); is {
		t.Errorf("%q is no stop", stop)
	}
	want, place, _ := readByHand(j.Number, first+frameByHand(stop))
	wantRead(t, j.Number, first+frameByHand(stop), want, place)
}

// A file cut at each place tells what its whole frames do.
func TestReadJournalOfCutFiles(t *testing.T) {
	for _, j := range []impl.Journal{{}, journalOf(3, 6, 1, logOf(4, 2, none(2), command(4, "b"), confEntry(4, 1, 2))), journalOf(1, 300, 4, longLog(7, 1, 12))} {
		records := recordsByHand(j)
		text, ends := fileByHand(records...)
		for cut := range len(text) + 1 {
			want, place := impl.Journal{Number: j.Number}, 0
			for at, end := range ends {
				if end > cut {
					break
				}
				place = end
				switch at {
				case 0:
					want.Log = logOf(j.Log.Start, j.Log.StartTerm)
				case 1:
					want.Term, want.Vote = j.Term, j.Vote
				default:
					want.Log.Entries = j.Log.Entries[:at-1]
				}
			}
			if place == 0 {
				refuseRead(t, j.Number, text[:cut])
			} else {
				wantRead(t, j.Number, text[:cut], want, place)
			}
		}
	}
}

func TestReadJournalOfFullFiles(t *testing.T) {
	for _, j := range []impl.Journal{{}, journalOf(5, 9, 1, logOf(4, 2, none(2), command(4, "b"))), greatestJournal(5)} {
		for _, size := range []int{impl.MaxText - 1, impl.MaxText} {
			wantRead(t, j.Number, paddedFile(t, j, size), j, size)
		}
		refuseRead(t, j.Number, paddedFile(t, j, impl.MaxText+1))
		// What is left behind the frames counts, too.
		text := journalByHand(j)
		wantRead(t, j.Number, text+strings.Repeat("\x00", impl.MaxText-len(text)), j, len(text))
		refuseRead(t, j.Number, text+strings.Repeat("\x00", impl.MaxText+1-len(text)))
	}
}

func TestJournalActs(t *testing.T) {
	a, b, c, x := none(1), command(2, "b"), command(2, "c"), none(3)
	old := journalOf(7, 3, 1, logOf(4, 1, a, b, c))
	d := onDisk(7, journalByHand(old))
	for _, w := range []struct {
		now   impl.Journal
		added []string
	}{
		{journalOf(7, 3, 1, logOf(4, 1, a, b, c)), nil},
		{journalOf(7, 4, 1, logOf(4, 1, a, b, c)), []string{"H\x04\x01"}},
		{journalOf(7, 2, 1, logOf(4, 1, a, b, c)), []string{"H\x02\x01"}},
		{journalOf(7, 3, 2, logOf(4, 1, a, b, c)), []string{"H\x03\x02"}},
		{journalOf(7, 3, 0, logOf(4, 1, a, b, c)), []string{"H\x03\x00"}},
		{journalOf(7, 4, 0, logOf(4, 1, a, b, c)), []string{"H\x04\x00"}},
		{journalOf(7, 3, 1, logOf(4, 1, a, b, c, x)), []string{entryByHand(8, x)}},
		{journalOf(7, 3, 1, logOf(4, 1, a, b, c, x, x)), []string{entryByHand(8, x), entryByHand(9, x)}},
		{journalOf(7, 3, 1, logOf(4, 1, a, b, x)), []string{entryByHand(7, x)}},
		{journalOf(7, 3, 1, logOf(4, 1, a, c, c)), []string{entryByHand(6, c), entryByHand(7, c)}},
		{journalOf(7, 3, 1, logOf(4, 1, a, x)), []string{entryByHand(6, x)}},
		{journalOf(7, 3, 1, logOf(4, 1, a, c)), []string{entryByHand(6, c)}},
		{journalOf(7, 3, 1, logOf(4, 1, x)), []string{entryByHand(5, x)}},
		{journalOf(7, 3, 1, logOf(4, 1, b, b, c, x)), []string{entryByHand(5, b), entryByHand(6, b), entryByHand(7, c), entryByHand(8, x)}},
		{journalOf(7, 5, 4, logOf(4, 1, a, b, c, x)), []string{"H\x05\x04", entryByHand(8, x)}},
		{journalOf(7, 5, 1, logOf(4, 1, x)), []string{"H\x05\x01", entryByHand(5, x)}},
	} {
		var acts []impl.Act
		if len(w.added) > 0 {
			acts = []impl.Act{add("j7", framesOf(w.added...)), keep("j7")}
		}
		wantActs(t, d, old, w.now, w.now, acts...)
		// The Number of now is not asked for.
		for _, n := range []int{0, 8, impl.MaxSegment} {
			wantActs(t, d, old, numbered(w.now, n), w.now, acts...)
		}
	}
}

// A new file is begun where frames behind the others can't tell it: entries that are gone without another in their place, or another beginning.
func TestJournalActsBeginAFile(t *testing.T) {
	a, b, c := none(1), command(2, "b"), command(2, "c")
	old := journalOf(7, 3, 1, logOf(4, 1, a, b, c))
	d := onDisk(7, journalByHand(old))
	for _, l := range []impl.Log{
		logOf(4, 1, a, b), logOf(4, 1, a), logOf(4, 1),
		logOf(5, 1, b, c), logOf(5, 1, a, b, c), logOf(3, 1, a, b, c), logOf(0, 0), logOf(7, 2), logOf(impl.MaxIndex, 1),
		logOf(4, 0, a, b, c), logOf(4, 0), logOf(4, 2), logOf(4, 0, a, b), logOf(4, 2, b, c, none(9)),
	} {
		for _, now := range []impl.Journal{journalOf(7, 3, 1, l), journalOf(0, 4, 2, l), journalOf(impl.MaxSegment, 3, 0, l)} {
			then := numbered(now, 8)
			wantActs(t, d, old, now, then, add("j+", journalByHand(then)), keep("j+"), move("j+", "j8"), drop("j7"))
		}
	}
	// From a journal without entries only another beginning does.
	old = journalOf(7, 3, 1, logOf(4, 1))
	d = onDisk(7, journalByHand(old))
	wantActs(t, d, old, old, old)
	wantActs(t, d, old, journalOf(7, 3, 1, logOf(4, 1, a)), journalOf(7, 3, 1, logOf(4, 1, a)), add("j7", frameByHand(entryByHand(5, a))), keep("j7"))
	wantActs(t, d, old, journalOf(7, 3, 1, logOf(5, 1)), journalOf(8, 3, 1, logOf(5, 1)), newFileByHand(journalOf(8, 3, 1, logOf(5, 1)), "j7")...)
}

// The file as it stands decides, not what would come behind it; and above SegBytes all comes into a new one, also when nothing is unlike.
func TestJournalActsAtSegBytes(t *testing.T) {
	old := journalOf(7, 9, 1, logOf(4, 1, none(1), command(2, "b")))
	nows := []impl.Journal{
		old, journalOf(7, 10, 1, old.Log), journalOf(7, 9, 2, old.Log),
		journalOf(7, 9, 1, logOf(4, 1, none(1), command(2, "b"), command(3, longText(impl.MaxData)))),
		journalOf(7, 11, 3, logOf(4, 1, none(2))), journalOf(7, 9, 1, longLog(4, 1, impl.MaxLog)),
	}
	for _, size := range []int{100, impl.SegBytes - 2, impl.SegBytes - 1, impl.SegBytes, impl.SegBytes + 1, impl.SegBytes + 2, 1000, impl.MaxText - 1, impl.MaxText} {
		d := onDisk(7, paddedFile(t, old, size))
		for at, now := range nows {
			acts, then, ok := impl.JournalActs(d, old, now)
			want, j, _ := actsByHand(d, old, now)
			if !ok || !slices.Equal(acts, want) || !sameJournal(then, j) {
				t.Errorf("JournalActs of %d bytes to %s = %s, %s, %v; want %s, %s, true", size, shownJournal(now), shownActs(acts...), shownJournal(then), ok, shownActs(want...), shownJournal(j))
			}
			if begun := then.Number == 8; begun != (size > impl.SegBytes) || begun != (len(acts) == 4) || !begun && (len(acts) == 0) != (at == 0) {
				t.Errorf("JournalActs of %d bytes to %s = %s", size, shownJournal(now), shownActs(acts...))
			}
		}
		// One that is shorter is never told in the old file.
		shorter := journalOf(7, 9, 1, logOf(4, 1, none(1)))
		wantActs(t, d, old, shorter, numbered(shorter, 8), newFileByHand(numbered(shorter, 8), "j7")...)
	}
	longer := diskOf(file("j7", paddedFile(t, old, impl.MaxText+1), 0))
	refuseActs(t, longer, old, nows[1])
}

func TestJournalActsAtMaxSegment(t *testing.T) {
	last := impl.MaxSegment
	old := journalOf(last, 9, 1, logOf(4, 1, none(1), command(2, "b")))
	vote, more := journalOf(0, 9, 2, old.Log), journalOf(0, 9, 1, logOf(4, 1, none(1), command(2, "b"), none(2)))
	for _, size := range []int{200, impl.SegBytes} {
		d := onDisk(last, paddedFile(t, old, size))
		wantActs(t, d, old, old, old)
		wantActs(t, d, old, vote, numbered(vote, last), add("j999", frameByHand("H\x09\x02")), keep("j999"))
		wantActs(t, d, old, more, numbered(more, last), add("j999", frameByHand(entryByHand(7, none(2)))), keep("j999"))
		// There is no file behind it.
		for _, l := range []impl.Log{logOf(4, 1, none(1)), logOf(4, 1), logOf(5, 1, command(2, "b")), logOf(4, 0, none(1), command(2, "b"))} {
			refuseActs(t, d, old, journalOf(0, 9, 1, l))
			refuseActs(t, d, old, journalOf(last, 10, 2, l))
		}
	}
	for _, now := range []impl.Journal{old, vote, more} {
		refuseActs(t, onDisk(last, paddedFile(t, old, impl.SegBytes+1)), old, now)
	}
	ahead := numbered(old, last-1)
	shorter := journalOf(0, 9, 1, logOf(4, 1, none(1)))
	wantActs(t, onDisk(last-1, journalByHand(old)), ahead, shorter, numbered(shorter, last), newFileByHand(numbered(shorter, last), "j998")...)
}

func TestJournalActsRefuse(t *testing.T) {
	old := journalOf(7, 9, 1, logOf(4, 1, none(1), command(2, "b")))
	text := journalByHand(old)
	d := onDisk(7, text)
	nows := []impl.Journal{old, journalOf(7, 9, 2, old.Log), journalOf(7, 9, 1, logOf(4, 1)), journalOf(7, 12, 0, logOf(9, 9))}
	for _, wrong := range wrongJournals() {
		refuseActs(t, d, old, wrong)
		refuseActs(t, d, wrong, old)
		refuseActs(t, d, wrong, wrong)
		if wrong.Number == 0 || wrong.Number == 1 {
			refuseActs(t, onDisk(wrong.Number, text), wrong, old)
		}
	}
	for _, now := range nows {
		// A disk without the file, with that of another number, or with another journal in it.
		refuseActs(t, diskOf(), old, now)
		refuseActs(t, without(d, "j7"), old, now)
		refuseActs(t, onDisk(8, text), old, now)
		refuseActs(t, onDisk(70, text), old, now)
		for _, other := range []impl.Journal{{}, journalOf(7, 8, 1, old.Log), journalOf(7, 9, 0, old.Log), journalOf(7, 9, 1, logOf(4, 1, none(1))), journalOf(7, 9, 1, logOf(4, 1, none(1), command(2, "c"))), journalOf(7, 9, 1, logOf(4, 1, none(1), command(2, "b"), none(2))), journalOf(7, 9, 1, logOf(4, 0, none(1), command(2, "b"))), journalOf(7, 9, 1, logOf(3, 1, none(1), command(2, "b")))} {
			refuseActs(t, onDisk(7, journalByHand(other)), old, now)
		}
		// A byte left, or a file that tells no journal.
		for _, rest := range []string{"\x00", "t", "torn", "\x03", frameByHand("H\x09\x01")[:7], frameByHand("x"), frameByHand("B\x04\x01"), frameByHand(entryByHand(9, none(2)))} {
			refuseActs(t, onDisk(7, text+rest), old, now)
		}
		for _, other := range []string{"", "x", text[1:], text[:len(text)-1], " " + text, framesOf(recordsByHand(old)[1:]...)} {
			refuseActs(t, onDisk(7, other), old, now)
		}
		// A file NameNew, whatever it has.
		for _, new := range []string{"", "x", text, journalByHand(now)} {
			refuseActs(t, with(d, "j+", new), old, now)
		}
		// A disk that is not right has no acts that could be done on it.
		for _, wrong := range wrongDisks() {
			refuseActs(t, wrong, old, now)
			refuseActs(t, impl.Disk{Files: append(slices.Clone(wrong.Files), file("j7", text, len(text)))}, old, now)
			refuseActs(t, impl.Disk{Files: append([]impl.File{file("j7", text, len(text))}, wrong.Files...)}, old, now)
		}
		// Names that are almost NameNew, and other journals' files, are no hindrance.
		for _, name := range []string{"j", "j00", "J+", "j+0", "j-", "s+", "j6", "j9"} {
			want, then, _ := impl.JournalActs(d, old, now)
			wantActs(t, with(d, name, "x"), old, now, then, want...)
		}
	}
	// How much of the file is kept is not asked for.
	wantActs(t, diskOf(file("j7", text, 0)), old, nows[1], nows[1], add("j7", frameByHand("H\x09\x02")), keep("j7"))
}

// someJournals are alike in much: each becomes each other one.
func someJournals() (list []impl.Journal) {
	a, b, c := none(1), command(1, "b"), command(2, "c")
	for _, l := range []impl.Log{
		{}, logOf(0, 0, a), logOf(0, 0, a, b), logOf(0, 0, a, b, c), logOf(0, 0, b), logOf(0, 0, a, c), logOf(0, 0, a, b, b), logOf(0, 0, c, c, c, c),
		logOf(0, 1), logOf(0, 1, a), logOf(1, 1), logOf(1, 1, b, c), logOf(2, 1, c), logOf(3, 2),
		longLog(0, 0, 9), longLog(0, 0, 10), longLog(0, 0, 40),
	} {
		list = append(list, journalOf(9, 2, 0, l), journalOf(9, 2, 1, l), journalOf(9, 300, 1, l))
	}
	return list
}

// Promise 7: the acts, done on the disk, leave one whose journal is the other one, and which asks for no more.
func TestJournalActsAreDone(t *testing.T) {
	for _, old := range someJournals() {
		for _, text := range []string{journalByHand(old), paddedFile(t, old, max(impl.SegBytes, len(journalByHand(old))+40)), paddedFile(t, old, impl.SegBytes+2500)} {
			d := onDisk(9, text)
			wantOpen(t, d, old)
			for _, now := range someJournals() {
				holdDone(t, d, old, now)
			}
		}
	}
}

func holdDone(t *testing.T, d impl.Disk, old, now impl.Journal) {
	t.Helper()
	acts, then, ok := impl.JournalActs(d, old, now)
	if !ok || !sameJournal(numbered(then, 9), now) || then.Number != 9 && then.Number != 10 {
		t.Fatalf("JournalActs(%s, %s, %s) = %s, %s, %v", shown(d), shownJournal(old), shownJournal(now), shownActs(acts...), shownJournal(then), ok)
	}
	behind, done := impl.DoActs(d, acts)
	if done != len(acts) || !impl.AllKept(behind) {
		t.Fatalf("only %d of %s are done on %s, which leave %s", done, shownActs(acts...), shown(d), shown(behind))
	}
	name := fmt.Sprint("j", then.Number)
	if text, here := impl.FileAt(behind, name); !here || !sameDisk(behind, with(without(d, "j9"), name, text)) {
		t.Errorf("%s leave %s of %s", shownActs(acts...), shown(behind), shown(d))
	}
	wantOpen(t, behind, then)
	again, same, ok := impl.JournalActs(behind, then, then)
	if text, _ := impl.FileAt(behind, name); !ok || (len(again) == 0) != (len(text) <= impl.SegBytes) || !sameJournal(numbered(same, 9), now) {
		t.Errorf("the same once more = %s, %s, %v", shownActs(again...), shownJournal(same), ok)
	}
}

// between: each entry is, at its index, one of either journal's; it begins where one of both does; its Term and Vote are one of both's.
func between(j, old, now impl.Journal) bool {
	begins := false
	for _, one := range []impl.Journal{old, now} {
		begins = begins || j.Log.Start == one.Log.Start && j.Log.StartTerm == one.Log.StartTerm
	}
	for at, e := range j.Log.Entries {
		index := j.Log.Start + at + 1
		had, _ := entryOfLog(old.Log, index)
		has, _ := entryOfLog(now.Log, index)
		if e != had && e != has {
			return false
		}
	}
	voted := j.Term == old.Term && j.Vote == old.Vote || j.Term == now.Term && j.Vote == now.Vote
	return begins && voted && rightJournalByHand(j)
}

// Promise 7: whatever the power leaves, it is the old one, or one between it and the new one.
func TestPowerOnJournalActs(t *testing.T) {
	for _, old := range someJournals() {
		size := len(journalByHand(old))
		for _, text := range []string{journalByHand(old), paddedFile(t, old, max(size+40, impl.SegBytes+1))} {
			for _, now := range someJournals() {
				holdPower(t, onDisk(9, text), old, now)
			}
		}
	}
}

func holdPower(t *testing.T, d impl.Disk, old, now impl.Journal) {
	t.Helper()
	acts, then, ok := impl.JournalActs(d, old, now)
	if !ok {
		t.Fatalf("JournalActs(%s, %s, %s) is false", shown(d), shownJournal(old), shownJournal(now))
	}
	for whole := range len(acts) + 1 {
		behind, _ := impl.DoActs(d, acts[:whole])
		most, from := 0, 0
		for _, f := range behind.Files {
			if f.Kept < len(f.Text) {
				most, from = len(f.Text), f.Kept
			}
		}
		for left := from; left <= most; left += 1 + (most-from)/12 {
			j := openCut(t, d, acts, whole, left)
			if !between(j, old, now) {
				t.Fatalf("the power leaves %s behind %d of %s with %d bytes: neither of %s nor of %s", shownJournal(j), whole, shownActs(acts...), left, shownJournal(old), shownJournal(now))
			}
			if whole == 0 && !sameJournal(j, old) || whole == len(acts) && !sameJournal(j, then) {
				t.Fatalf("the power leaves %s behind %d of %s", shownJournal(j), whole, shownActs(acts...))
			}
		}
	}
}

// openCut is what is opened of what the power leaves; its acts are done, and opened again, and the power goes among these, too.
func openCut(t *testing.T, d impl.Disk, acts []impl.Act, whole, left int) impl.Journal {
	t.Helper()
	lost, ok := impl.CutActs(d, acts, whole, slices.Repeat([]int{left}, impl.MaxFiles))
	if !ok {
		t.Fatalf("CutActs(%s, %s, %d) is false", shown(d), shownActs(acts...), whole)
	}
	j, more, ok := impl.OpenJournal(lost)
	if !ok {
		t.Fatalf("OpenJournal(%s) is false", shown(lost))
	}
	for cut := range len(more) + 1 {
		half, ok := impl.CutActs(lost, more, cut, []int{left, left / 2, left, left / 2})
		again, rest, fine := impl.OpenJournal(half)
		if !ok || !fine || !sameJournal(numbered(again, 0), numbered(j, 0)) {
			t.Fatalf("behind %d of %s OpenJournal(%s) = %s, %v; want %s, true", cut, shownActs(more...), shown(half), shownJournal(again), fine, shownJournal(j))
		}
		if cut == len(more) && (len(rest) != 0 || !sameJournal(again, j)) {
			t.Fatalf("behind all of %s OpenJournal(%s) = %s, %s; want %s, and no acts", shownActs(more...), shown(half), shownJournal(again), shownActs(rest...), shownJournal(j))
		}
	}
	return j
}

// What is torn behind each frame and in each, byte by byte, of one life: the frames that are whole count.
func TestPowerByteByByte(t *testing.T) {
	a, b, c, x := none(1), command(1, "b"), command(1, "c"), none(2)
	old := journalOf(9, 2, 1, logOf(0, 1, a, b, c))
	now := journalOf(9, 3, 4, logOf(0, 1, a, x, x))
	text := journalByHand(old)
	d := diskOf(file("j9", text, len(text)))
	acts, _, ok := impl.JournalActs(d, old, now)
	added, ends := fileByHand("H\x03\x04", entryByHand(2, x), entryByHand(3, x))
	if !ok || !slices.Equal(acts, []impl.Act{add("j9", added), keep("j9")}) {
		t.Fatalf("JournalActs = %s, %v", shownActs(acts...), ok)
	}
	steps := []impl.Journal{old, journalOf(9, 3, 4, old.Log), journalOf(9, 3, 4, logOf(0, 1, a, x)), now}
	for left := range len(added) + 1 {
		whole := 0
		for whole < 3 && ends[whole] <= left {
			whole++
		}
		lost, _ := impl.CutActs(d, acts, 1, []int{len(text) + left})
		if left == 0 || left == ends[max(whole, 1)-1] {
			wantOpen(t, lost, steps[whole])
		} else {
			wantOpen(t, lost, numbered(steps[whole], 10), newFileByHand(numbered(steps[whole], 10), "j9")...)
		}
	}
}

func TestOpenJournal(t *testing.T) {
	for _, j := range rightJournals() {
		text := journalByHand(j)
		wantOpen(t, onDisk(j.Number, text), j)
		wantOpen(t, diskOf(file(fmt.Sprint("j", j.Number), text, 0)), j)
		wantOpen(t, with(onDisk(j.Number, text), "j+", "x"), j, drop("j+"))
		for _, rest := range []string{"\x00", "torn", frameByHand("x"), frameByHand("B\x00\x00")} {
			next := numbered(j, j.Number+1)
			torn := onDisk(j.Number, text+rest)
			if next.Number > impl.MaxSegment {
				refuseOpen(t, torn)
				continue
			}
			name := fmt.Sprint("j", j.Number)
			wantOpen(t, torn, next, add("j+", text), keep("j+"), move("j+", fmt.Sprint("j", next.Number)), drop(name))
			wantOpen(t, with(torn, "j+", text), next, drop("j+"), add("j+", text), keep("j+"), move("j+", fmt.Sprint("j", next.Number)), drop(name))
		}
	}
}

// Of several files that of the greatest number counts, which is not always the last by name.
func TestOpenJournalOfSeveral(t *testing.T) {
	j := journalOf(0, 3, 1, logOf(4, 1, none(1)))
	text := journalByHand(j)
	others := diskOf(file("j1", "", 0), file("j100", "wrong", 5), file("j2", text, 3), file("j99", text, 0))
	wantOpen(t, with(others, "j101", text), numbered(j, 101), drop("j1"), drop("j100"), drop("j2"), drop("j99"))
	wantOpen(t, with(others, "j999", text), numbered(j, 999), drop("j1"), drop("j100"), drop("j2"), drop("j99"))
	wantOpen(t, with(with(others, "j101", text), "j+", text), numbered(j, 101), drop("j+"), drop("j1"), drop("j100"), drop("j2"), drop("j99"))
	wantOpen(t, diskOf(file("j10", text, 0), file("j9", "", 0)), numbered(j, 10), drop("j9"))
	wantOpen(t, diskOf(file("j0", text, 0), file("j1", text, 0)), numbered(j, 1), drop("j0"))
	wantOpen(t, diskOf(file("j+", "", 0), file("j10", text+"t", 0), file("j2", text, 0), file("j9", "", 0)), numbered(j, 11),
		drop("j+"), drop("j2"), drop("j9"), add("j+", text), keep("j+"), move("j+", "j11"), drop("j10"))
	// When the greatest one tells nothing, no lesser one is taken.
	for _, wrong := range []string{"", "x", text[1:], frameByHand("H\x00\x00"), frameByHand("B\x00"), strings.Repeat("\x00", impl.MaxText)} {
		refuseOpen(t, diskOf(file("j10", wrong, 0), file("j9", text, len(text))))
		refuseOpen(t, diskOf(file("j+", text, len(text)), file("j0", wrong, 0)))
		refuseOpen(t, diskOf(file("j0", wrong, len(wrong))))
	}
	// As many files as a disk may have.
	many := impl.Disk{}
	var drops []impl.Act
	for n := range impl.MaxFiles - 1 {
		many = with(many, fmt.Sprint("j", n), text)
	}
	for _, f := range many.Files {
		drops = append(drops, drop(f.Name))
	}
	wantOpen(t, with(many, "j500", text), numbered(j, 500), drops...)
}

// Names that are almost a JournalName are none: they are neither opened nor dropped.
func TestOpenJournalOfOtherNames(t *testing.T) {
	j := journalOf(5, 3, 1, logOf(4, 1, none(1)))
	text := journalByHand(j)
	for _, name := range []string{"j", "j00", "j01", "j1000", "J1", "j05", "j005", "j-1", "j-0", "j 1", "j1 ", " j1", "jj1", "j1j", "j9999", "j99999", "j+1", "j++", "+j", "i1", "k1", "1", "999", "s5", "s+", "j\x00", "j1\x00", "j0x1", "j1e1", "j１", "jA"} {
		refuseOpen(t, diskOf(file(name, text, len(text))))
		wantOpen(t, with(onDisk(5, text), name, text), j)
		wantOpen(t, with(onDisk(5, text), name, "x"), j)
		wantOpen(t, with(with(onDisk(5, text), name, "x"), "j3", "y"), j, drop("j3"))
	}
}

func TestOpenJournalRefuses(t *testing.T) {
	text := journalByHand(journalOf(5, 3, 1, logOf(4, 1, none(1))))
	refuseOpen(t, diskOf())
	refuseOpen(t, diskOf(file("j+", text, len(text))))
	refuseOpen(t, diskOf(file("a", text, len(text)), file("s5", text, 0)))
	for _, d := range rightDisks() {
		refuseOpen(t, d)
	}
	for _, d := range wrongDisks() {
		refuseOpen(t, d)
		refuseOpen(t, impl.Disk{Files: append(slices.Clone(d.Files), file("j5", text, len(text)))})
		refuseOpen(t, impl.Disk{Files: append([]impl.File{file("j5", text, len(text))}, d.Files...)})
	}
	refuseOpen(t, diskOf(file("j5", text, len(text)+1)))
	refuseOpen(t, diskOf(file("j5", text, -1)))
	refuseOpen(t, diskOf(file("j5", text+strings.Repeat("\x00", impl.MaxText), 0)))
	refuseOpen(t, diskOf(file("j5", text, 0), file("j4", text, 0)))
}

// Lives drawn: a journal goes on and on, its power goes now and then, and by-hand answers are held against each.
func TestDrawnJournals(t *testing.T) {
	next := draws(7)
	d := onDisk(0, journalByHand(impl.Journal{}))
	old := impl.Journal{}
	begun, torn := 0, 0
	for range 2500 {
		now := drawnJournal(next, old)
		acts, then, ok := impl.JournalActs(d, old, now)
		want, j, fine := actsByHand(d, old, now)
		if ok != fine || !slices.Equal(acts, want) || !sameJournal(then, j) {
			t.Fatalf("JournalActs(%s, %s, %s) = %s, %s, %v; want %s, %s, %v", shown(d), shownJournal(old), shownJournal(now), shownActs(acts...), shownJournal(then), ok, shownActs(want...), shownJournal(j), fine)
		}
		if !ok {
			// The numbers are at their end: the life begins again.
			d, old = onDisk(0, journalByHand(impl.Journal{})), impl.Journal{}
			continue
		}
		begun += len(acts) / 4
		whole, left := len(acts), []int{}
		if next(3) == 0 {
			whole = next(len(acts) + 1)
			left = drawnLeft(next, d, acts[:whole])
		}
		lost, _ := impl.CutActs(d, acts, whole, left)
		opened, more, ok := impl.OpenJournal(lost)
		wanted, list, _ := openByHand(lost)
		if !ok || !sameJournal(opened, wanted) || !slices.Equal(more, list) || !between(opened, old, then) {
			t.Fatalf("OpenJournal(%s) = %s, %s, %v; want %s, %s, true", shown(lost), shownJournal(opened), shownActs(more...), ok, shownJournal(wanted), shownActs(list...))
		}
		torn += len(more) / 4
		d, _ = impl.DoActs(lost, more)
		old = opened
	}
	if begun < 100 || torn < 50 {
		t.Errorf("%d files were begun, %d were torn", begun, torn)
	}
}

// drawnLeft leaves of each file somewhat more than is kept of it.
func drawnLeft(next func(int) int, d impl.Disk, acts []impl.Act) (left []int) {
	behind, _ := impl.DoActs(d, acts)
	for _, f := range behind.Files {
		left = append(left, f.Kept+next(len(f.Text)-f.Kept+1))
	}
	return left
}

func drawnJournal(next func(int) int, old impl.Journal) impl.Journal {
	now := journalOf(next(1000), old.Term, old.Vote, copyLog(old.Log))
	if next(3) == 0 {
		now.Term, now.Vote = min(now.Term+next(2), impl.MaxTerm), next(5)
	}
	last, term := impl.LogLast(now.Log)
	switch next(12) {
	case 0:
		base := last - next(len(now.Log.Entries)+1)
		now.Log = impl.LogBehind(now.Log, base, impl.LogTerm(now.Log, base))
	case 1:
		now.Log.Entries = now.Log.Entries[:next(len(now.Log.Entries)+1)]
	case 2:
		if cut := next(len(now.Log.Entries) + 1); cut < len(now.Log.Entries) {
			now.Log, _ = impl.LogPut(now.Log, now.Log.Start+cut+1, command(term, fmt.Sprint("other ", next(9))))
		}
	default:
		for range next(3) {
			last, term = impl.LogLast(now.Log)
			if put, ok := impl.LogPut(now.Log, last+1, command(min(term+next(5)/4, impl.MaxTerm), longText(next(40)))); ok {
				now.Log = put
			}
		}
	}
	return now
}

// Files drawn from frames that are, or are almost, those of a journal.
func TestDrawnJournalFiles(t *testing.T) {
	next := draws(77)
	told := 0
	for range 6000 {
		var records []string
		if next(8) > 0 {
			records = append(records, beginByHand(next(4), next(3)))
		}
		for range next(9) {
			switch next(10) {
			case 0, 1:
				records = append(records, voteByHand(next(200), next(6)))
			case 2:
				records = append(records, []string{"x", "H", "B\x00\x00", "E\x01\x01\x01", "H\x01\x01\x00", "E\x02\x02\x04"}[next(6)])
			default:
				records = append(records, entryByHand(next(5)+len(records)/2, impl.Entry{Term: next(2) + len(records)/2, Kind: 1 + 2*next(2)}))
			}
		}
		text := framesOf(records...)
		if next(3) == 0 {
			text = text[:next(len(text)+1)]
		}
		n := []int{0, 1, 998, 999, 1000, -1}[next(6)]
		want, place, ok := readByHand(n, text)
		if !ok {
			refuseRead(t, n, text)
			continue
		}
		told++
		wantRead(t, n, text, want, place)
	}
	if told < 1000 {
		t.Errorf("only %d of the files drawn tell a journal", told)
	}
}

// Journals and disks whose lists have room behind them: nothing is written into them, or there, and no answer lies in them.
func TestJournalArgumentsStay(t *testing.T) {
	room := manyEntries(12, 3)
	old := journalOf(7, 9, 1, logOf(4, 3, room[:6]...))
	text := journalByHand(old)
	files := append(onDisk(7, text).Files, file("t", "spare", 5), file("u", "spare", 5))
	others := diskOf(file("j+", "x", 1), file("j3", "y", 0), file("j7", text+"torn", 2), file("v", "spare", 5)).Files
	roomBefore, filesBefore, othersBefore := slices.Clone(room), slices.Clone(files), slices.Clone(others)
	stayed := func(what string) {
		t.Helper()
		if !slices.Equal(room, roomBefore) || !slices.Equal(files, filesBefore) || !slices.Equal(others, othersBefore) {
			t.Fatalf("%s wrote into an argument, or its answer lies in one", what)
		}
	}
	d := impl.Disk{Files: files[:3]}
	for count := range 13 {
		now := journalOf(7, 9, 2, logOf(4, 3, room[:count]...))
		acts, then, ok := impl.JournalActs(d, old, now)
		stayed("JournalActs")
		if !ok {
			t.Fatalf("JournalActs(.., %s) is false", shownJournal(now))
		}
		clear(acts[:cap(acts)])
		clear(then.Log.Entries[:cap(then.Log.Entries)])
		stayed("JournalActs")
		impl.JournalText(now)
		impl.JournalOk(now)
		stayed("JournalText")
	}
	j, acts, ok := impl.OpenJournal(impl.Disk{Files: others[:3]})
	stayed("OpenJournal")
	if !ok || len(acts) != 6 {
		t.Fatalf("OpenJournal = %s, %s, %v", shownJournal(j), shownActs(acts...), ok)
	}
	clear(acts[:cap(acts)])
	clear(j.Log.Entries[:cap(j.Log.Entries)])
	stayed("OpenJournal")
}

func TestJournalsAreNew(t *testing.T) {
	data := strings.Clone("the data of an entry")
	old := journalOf(7, 9, 1, logOf(4, 3, none(3)))
	now := journalOf(7, 9, 2, logOf(4, 3, none(3), command(3, data)))
	text := strings.Clone(journalByHand(now))
	read, _, _ := impl.ReadJournal(7, text)
	if got := read.Log.Entries[1].Data; got != data || liesIn(got, text) {
		t.Error("ReadJournal answers with the memory of its argument")
	}
	for _, d := range []impl.Disk{onDisk(7, journalByHand(old)), onDisk(7, paddedFile(t, old, impl.SegBytes+1))} {
		acts, then, ok := impl.JournalActs(d, old, now)
		if got := then.Log.Entries[1].Data; !ok || got != data || liesIn(got, data) || liesIn(acts[0].Text, got) {
			t.Error("JournalActs answers with the memory of an argument, or with one memory twice")
		}
		clear(acts)
		clear(then.Log.Entries)
		wanted, j, _ := actsByHand(d, old, now)
		wantActs(t, d, old, now, j, wanted...)
	}
	stale := strings.Clone("j3")
	d := diskOf(file(stale, "y", 1), file("j7", text, len(text)))
	j, acts, ok := impl.OpenJournal(d)
	if !ok || acts[0].Name != stale || liesIn(acts[0].Name, stale) || liesIn(j.Log.Entries[1].Data, text) {
		t.Error("OpenJournal answers with the memory of its argument")
	}
	clear(acts)
	clear(j.Log.Entries)
	wantOpen(t, d, now, drop("j3"))
}

func TestJournalConstants(t *testing.T) {
	if impl.MaxSegment != 999 || impl.SegBytes != 400 || impl.NameNew != "j+" {
		t.Errorf("MaxSegment, SegBytes and NameNew are %d, %d and %q", impl.MaxSegment, impl.SegBytes, impl.NameNew)
	}
}
