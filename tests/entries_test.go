package tests

import (
	"fmt"
	"math"
	"slices"
	"strings"
	"testing"

	"loop.example/g00127/impl"
)

// rightConfs are all that there are: the choices of some of 1 .. 4.
func rightConfs() (list [][]int) {
	for chosen := 1; chosen < 16; chosen++ {
		var conf []int
		for node := 1; node <= 4; node++ {
			if chosen>>(node-1)%2 == 1 {
				conf = append(conf, node)
			}
		}
		list = append(list, conf)
	}
	return list
}

func isRightConf(conf []int) bool {
	return slices.ContainsFunc(rightConfs(), func(right []int) bool { return slices.Equal(right, conf) })
}

func wrongConfs() [][]int {
	return [][]int{
		nil, {},
		{0}, {-1}, {5}, {6}, {255}, {256}, {257}, {258}, {-255}, {math.MaxInt}, {math.MinInt},
		{0, 1}, {0, 1, 2, 3}, {-1, 1}, {1, 5}, {1, 2, 3, 5}, {2, 257}, {-254, 3},
		{2, 1}, {4, 3, 2, 1}, {1, 3, 2}, {2, 3, 1}, {1, 2, 4, 3},
		{1, 1}, {4, 4}, {1, 1, 2}, {1, 2, 2}, {1, 2, 3, 3}, {3, 3, 3, 3},
		{1, 2, 3, 4, 4}, {1, 2, 3, 4, 5}, {0, 1, 2, 3, 4}, {1, 1, 2, 3, 4}, {1, 2, 3, 4, 1, 2, 3, 4}, make([]int, 1000),
	}
}

// confByHand has one byte for each number, also of a conf that is not right.
func confByHand(conf []int) string {
	var out []byte
	for _, node := range conf {
		out = append(out, byte(node))
	}
	return string(out)
}

// numberByHand is the VarText of a number that is not below 0.
func numberByHand(n int) string {
	if n < 128 {
		return string([]byte{byte(n)})
	}
	return string([]byte{byte(n%128) | 128}) + numberByHand(n/128)
}

// entryByHand writes an entry as the document tells it, also one that is not right.
func entryByHand(index int, e impl.Entry) string {
	return "E" + numberByHand(index) + numberByHand(e.Term) + string([]byte{byte(e.Kind)}) + e.Data
}

func rightByHand(e impl.Entry) bool {
	if e.Term < 0 || e.Term > 100000 {
		return false
	}
	switch e.Kind {
	case 1:
		return len(e.Data) == 0
	case 2:
		return slices.ContainsFunc(rightConfs(), func(conf []int) bool { return confByHand(conf) == e.Data })
	case 3:
		return len(e.Data) < 121
	}
	return false
}

// entryByTrial takes index and Term of every length that they may have, and writes what that gives once more.
func entryByTrial(text string) (int, impl.Entry, bool) {
	number := func(bytes string) (n int) {
		for at := len(bytes) - 1; at >= 0; at-- {
			n = n*128 + int(bytes[at])%128
		}
		return n
	}
	for first := 2; first <= 4; first++ {
		for second := first + 1; second <= first+3 && second < len(text); second++ {
			index := number(text[1:first])
			e := impl.Entry{Term: number(text[first:second]), Kind: int(text[second]), Data: text[second+1:]}
			if index >= 1 && index <= 1000000 && rightByHand(e) && entryByHand(index, e) == text {
				return index, e, true
			}
		}
	}
	return 0, impl.Entry{}, false
}

func none(term int) impl.Entry { return impl.Entry{Term: term, Kind: impl.EntryNone} }
func command(term int, d string) impl.Entry {
	return impl.Entry{Term: term, Kind: impl.EntryCommand, Data: d}
}
func confEntry(term int, c ...int) impl.Entry {
	return impl.Entry{Term: term, Kind: impl.EntryConf, Data: confByHand(c)}
}

// edgeTerms and edgeIndexes are those of one byte, of two and of three, and the limits.
var (
	edgeTerms   = []int{0, 1, 2, 126, 127, 128, 129, 300, 16382, 16383, 16384, 16385, 99999, 100000}
	edgeIndexes = []int{1, 2, 3, 126, 127, 128, 129, 300, 16382, 16383, 16384, 16385, 100000, 100001, 999999, 1000000}
	wrongTerms  = []int{-1, -2, -128, 100001, 100002, 1000000, 1000000001, math.MinInt, math.MaxInt}
	wrongIndex  = []int{0, -1, -2, -128, 1000001, 1000002, 1000000000, 1000000001, math.MinInt, math.MaxInt}
	wrongKinds  = []int{0, 4, 5, 255, -1, -2, -3, 256, 257, 258, 259, -253, -254, -255, math.MinInt, math.MaxInt}
)

// commandTexts are Data of commands: none, few, those that look like something else, and the most there may be.
func commandTexts() []string {
	return []string{
		"", "x", "\x00", "\x01", "\x80", "\xff", "\x80\x00", "E", "E\x03\x02\x03x", "\x01\x02\x03", "ümlaut",
		everyByte()[:100], everyByte()[136:], longText(impl.MaxData - 1), longText(impl.MaxData), strings.Repeat("\x00", impl.MaxData), strings.Repeat("\xff", impl.MaxData),
	}
}

func rightEntries() (list []impl.Entry) {
	for _, term := range edgeTerms {
		list = append(list, none(term))
		for _, conf := range rightConfs() {
			list = append(list, confEntry(term, conf...))
		}
		for _, d := range commandTexts() {
			list = append(list, command(term, d))
		}
	}
	return list
}

func wrongEntries() (list []impl.Entry) {
	for _, term := range wrongTerms {
		list = append(list, none(term), confEntry(term, 1, 2), command(term, "x"), command(term, ""))
	}
	for _, kind := range wrongKinds {
		for _, d := range []string{"", "x", "\x01", "\x01\x02", longText(impl.MaxData)} {
			list = append(list, impl.Entry{Term: 1, Kind: kind, Data: d})
		}
	}
	for _, d := range []string{"x", "\x00", "\x01", " ", longText(impl.MaxData), longText(impl.MaxText)} {
		list = append(list, impl.Entry{Term: 1, Kind: impl.EntryNone, Data: d})
	}
	for _, conf := range wrongConfs() {
		// Of the numbers that a byte does not hold, the text is that of another conf.
		if d := confByHand(conf); !rightByHand(impl.Entry{Kind: impl.EntryConf, Data: d}) {
			list = append(list, impl.Entry{Term: 1, Kind: impl.EntryConf, Data: d})
		}
	}
	for _, d := range []string{"1", "1,2", "\x01\x02x", "x\x01", "\x01,\x02", "\x02\x01\x02", "\xff", "\x81", longText(impl.MaxData)} {
		list = append(list, impl.Entry{Term: 1, Kind: impl.EntryConf, Data: d})
	}
	for _, size := range []int{impl.MaxData + 1, impl.MaxData + 2, 2 * impl.MaxData, impl.MaxText, impl.MaxText + 1} {
		list = append(list, command(1, longText(size)), command(1, strings.Repeat("\x00", size)))
	}
	return append(list, impl.Entry{}, impl.Entry{Term: 1}, impl.Entry{Data: "x"})
}

func shownEntry(e impl.Entry) string {
	return fmt.Sprintf("{Term %d, Kind %d, Data %.60q of %d bytes}", e.Term, e.Kind, e.Data, len(e.Data))
}

func refuseConf(t *testing.T, conf []int) {
	t.Helper()
	if impl.ConfOk(conf) {
		t.Errorf("ConfOk(%v) is true", conf)
	}
	if s, ok := impl.ConfText(conf); ok || s != "" {
		t.Errorf("ConfText(%v) = %q, %v; want nothing", conf, s, ok)
	}
}

func refuseConfText(t *testing.T, text string) {
	t.Helper()
	if conf, ok := impl.ReadConf(text); ok || len(conf) != 0 {
		t.Errorf("ReadConf(%.40q) = %v, %v; want nothing", text, conf, ok)
	}
}

func wantEntry(t *testing.T, text string, index int, e impl.Entry) {
	t.Helper()
	if n, got, ok := impl.ReadEntry(text); !ok || n != index || got != e {
		t.Errorf("ReadEntry(%.60q) = %d, %s, %v; want %d, %s, true", text, n, shownEntry(got), ok, index, shownEntry(e))
	}
}

func refuseEntry(t *testing.T, text string) {
	t.Helper()
	if n, e, ok := impl.ReadEntry(text); ok || n != 0 || e != (impl.Entry{}) {
		t.Errorf("ReadEntry(%.60q) of %d bytes = %d, %s, %v; want nothing", text, len(text), n, shownEntry(e), ok)
	}
}

// holdEntryText holds ReadEntry against what trial finds in the text, be it an entry or none.
func holdEntryText(t *testing.T, text string) {
	t.Helper()
	if index, e, ok := entryByTrial(text); ok {
		wantEntry(t, text, index, e)
	} else {
		refuseEntry(t, text)
	}
}

func refuseEntryText(t *testing.T, index int, e impl.Entry) {
	t.Helper()
	if s, ok := impl.EntryText(index, e); ok || s != "" {
		t.Errorf("EntryText(%d, %s) = %.60q, %v; want nothing", index, shownEntry(e), s, ok)
	}
}

func TestConfOk(t *testing.T) {
	for _, conf := range rightConfs() {
		if !impl.ConfOk(conf) {
			t.Errorf("ConfOk(%v) is false", conf)
		}
	}
	for _, conf := range wrongConfs() {
		refuseConf(t, conf)
	}
}

// Every list of up to five numbers about those that may stand in a conf.
func TestConfOkOfAllLists(t *testing.T) {
	var try func(conf []int)
	try = func(conf []int) {
		if right := isRightConf(conf); impl.ConfOk(conf) != right {
			t.Errorf("ConfOk(%v) is %v", conf, !right)
		} else if s, ok := impl.ConfText(conf); ok != right || right && s != confByHand(conf) || !right && s != "" {
			t.Errorf("ConfText(%v) = %q, %v", conf, s, ok)
		}
		if len(conf) < 5 {
			for node := -1; node <= 6; node++ {
				try(append(slices.Clone(conf), node))
			}
		}
	}
	try(nil)
}

// Promise 5: every right conf comes back from its text.
func TestConfsComeBack(t *testing.T) {
	for _, conf := range rightConfs() {
		s, ok := impl.ConfText(conf)
		if !ok || s != confByHand(conf) {
			t.Errorf("ConfText(%v) = %q, %v", conf, s, ok)
		}
		if back, ok := impl.ReadConf(s); !ok || !slices.Equal(back, conf) {
			t.Errorf("ReadConf(%q) = %v, %v; want %v, true", s, back, ok, conf)
		}
	}
	if s, ok := impl.ConfText([]int{1, 2, 3, 4}); !ok || s != "\x01\x02\x03\x04" {
		t.Errorf("ConfText of all nodes = %q, %v", s, ok)
	}
}

func TestReadConfOfAllShortTexts(t *testing.T) {
	hold := func(text string) {
		conf, ok := impl.ReadConf(text)
		if right := rightByHand(impl.Entry{Kind: impl.EntryConf, Data: text}); ok != right || right && confByHand(conf) != text || !right && len(conf) != 0 {
			t.Errorf("ReadConf(%q) = %v, %v", text, conf, ok)
		}
	}
	for a := range 256 {
		hold(string([]byte{byte(a)}))
		for b := range 256 {
			hold(string([]byte{byte(a), byte(b)}))
		}
	}
	// Longer ones, of the bytes that may stand in a conf and a few others.
	bytes := []byte{0, 1, 2, 3, 4, 5, 255}
	for n := range 7 * 7 * 7 * 7 * 7 {
		text := string([]byte{bytes[n%7], bytes[n/7%7], bytes[n/49%7], bytes[n/343%7], bytes[n/2401]})
		hold(text[:3])
		hold(text[:4])
		hold(text)
	}
}

func TestReadConfRefuses(t *testing.T) {
	for _, text := range []string{"", "1", "1,2", " ", "\x00", "\x05", "\x81", "\xff", "\x01\x01", "\x02\x01", "\x01\x02\x03\x05", "\x01\x02\x03\x04\x04", "\x01\x02\x03\x04\x05", everyByte(), longText(impl.MaxText + 1)} {
		refuseConfText(t, text)
	}
}

func TestEntryOk(t *testing.T) {
	for _, e := range rightEntries() {
		if !impl.EntryOk(e) {
			t.Errorf("EntryOk(%s) is false", shownEntry(e))
		}
	}
	for _, e := range wrongEntries() {
		if impl.EntryOk(e) {
			t.Errorf("EntryOk(%s) is true", shownEntry(e))
		}
	}
}

func TestEntryOkOfData(t *testing.T) {
	for size := range 2*impl.MaxData + 1 {
		for kind, want := range map[int]bool{impl.EntryNone: size == 0, impl.EntryConf: false, impl.EntryCommand: size <= impl.MaxData, 0: false, 4: false} {
			e := impl.Entry{Term: 7, Kind: kind, Data: longText(size)}
			if impl.EntryOk(e) != want {
				t.Errorf("EntryOk of the Kind %d with %d bytes is %v", kind, size, !want)
			}
			if s, ok := impl.EntryText(1, e); ok != want || want && s != entryByHand(1, e) || !want && s != "" {
				t.Errorf("EntryText of the Kind %d with %d bytes = %.60q, %v", kind, size, s, ok)
			}
		}
	}
}

func TestEntryTextBytes(t *testing.T) {
	for _, c := range []struct {
		index int
		e     impl.Entry
		want  string
	}{
		{3, command(2, "x"), "E\x03\x02\x03x"},
		{1, none(0), "E\x01\x00\x01"},
		{127, none(127), "E\x7f\x7f\x01"},
		{128, none(128), "E\x80\x01\x80\x01\x01"},
		{300, command(0, ""), "E\xac\x02\x00\x03"},
		{16383, confEntry(16383, 4), "E\xff\x7f\xff\x7f\x02\x04"},
		{16384, confEntry(16384, 1, 3), "E\x80\x80\x01\x80\x80\x01\x02\x01\x03"},
		{impl.MaxIndex, confEntry(impl.MaxTerm, 1, 2, 3, 4), "E\xc0\x84\x3d\xa0\x8d\x06\x02\x01\x02\x03\x04"},
		{impl.MaxIndex, command(impl.MaxTerm, "E\x01"), "E\xc0\x84\x3d\xa0\x8d\x06\x03E\x01"},
	} {
		if s, ok := impl.EntryText(c.index, c.e); !ok || s != c.want {
			t.Errorf("EntryText(%d, %s) = %q, %v; want %q, true", c.index, shownEntry(c.e), s, ok, c.want)
		}
		wantEntry(t, c.want, c.index, c.e)
	}
}

// Promise 5: right entries of each kind come back from their text, with their index.
func TestEntriesComeBack(t *testing.T) {
	for _, e := range rightEntries() {
		for _, index := range edgeIndexes {
			s, ok := impl.EntryText(index, e)
			if !ok || s != entryByHand(index, e) {
				t.Fatalf("EntryText(%d, %s) = %q, %v; want %q, true", index, shownEntry(e), s, ok, entryByHand(index, e))
			}
			wantEntry(t, s, index, e)
		}
	}
}

func TestDrawnEntriesComeBack(t *testing.T) {
	next := draws(5)
	for range 20000 {
		index := 1 + next(impl.MaxIndex)
		e := impl.Entry{Term: next(impl.MaxTerm + 1), Kind: 1 + next(3)}
		switch e.Kind {
		case impl.EntryConf:
			e.Data = confByHand(rightConfs()[next(15)])
		case impl.EntryCommand:
			from := next(256)
			e.Data = longText(1000)[from : from+next(impl.MaxData+1)]
		}
		s, ok := impl.EntryText(index, e)
		if !ok || s != entryByHand(index, e) {
			t.Fatalf("EntryText(%d, %s) = %q, %v", index, shownEntry(e), s, ok)
		}
		wantEntry(t, s, index, e)
	}
}

func TestEntryTextRefuses(t *testing.T) {
	for _, e := range wrongEntries() {
		for _, index := range []int{1, 128, impl.MaxIndex, 0} {
			refuseEntryText(t, index, e)
		}
	}
	for _, index := range wrongIndex {
		for _, e := range []impl.Entry{none(0), none(impl.MaxTerm), confEntry(1, 1), command(1, "x")} {
			refuseEntryText(t, index, e)
		}
	}
}

// What is written by hand of wrong entries, and of wrong indexes, is no entry's text.
func TestReadEntryRefusesWrongEntries(t *testing.T) {
	for _, e := range wrongEntries() {
		if e.Term >= 0 && e.Kind >= 0 && e.Kind < 256 {
			refuseEntry(t, entryByHand(1, e))
			refuseEntry(t, entryByHand(impl.MaxIndex, e))
		}
	}
	for _, index := range wrongIndex {
		if index >= 0 {
			for _, e := range []impl.Entry{none(0), none(impl.MaxTerm), confEntry(1, 1), command(1, "x")} {
				refuseEntry(t, entryByHand(index, e))
			}
		}
	}
	for _, d := range []string{"", "\x01", "x", "\x01\x02"} {
		for kind := range 256 {
			holdEntryText(t, "E\x01\x01"+string([]byte{byte(kind)})+d)
		}
		for kind := 4; kind < 256; kind++ {
			refuseEntry(t, "E\x01\x01"+string([]byte{byte(kind)})+d)
		}
		refuseEntry(t, "E\x01\x01\x00"+d)
	}
}

func TestReadEntryRefusesOtherBeginnings(t *testing.T) {
	refuseEntry(t, "")
	for _, e := range []impl.Entry{none(0), confEntry(1, 1, 2), command(2, "x")} {
		text := entryByHand(3, e)
		for b := range 256 {
			if b != 'E' {
				refuseEntry(t, string([]byte{byte(b)})+text[1:])
			}
		}
		refuseEntry(t, text[1:])
		refuseEntry(t, " "+text)
		refuseEntry(t, "\x00"+text)
		refuseEntry(t, "e"+text[1:])
		refuseEntry(t, strings.ToLower(text))
	}
}

// longerForms of a number: its last byte goes on, and noughts come behind it.
func longerForms(n int) (list []string) {
	for more := 1; more < 12; more++ {
		longer := []byte(numberByHand(n))
		longer[len(longer)-1] |= 128
		list = append(list, string(longer)+strings.Repeat("\x80", more-1)+"\x00")
	}
	return list
}

func TestReadEntryRefusesLongerForms(t *testing.T) {
	for _, n := range []int{1, 2, 127, 128, 300, 16383, 16384, 100000} {
		for _, longer := range longerForms(n) {
			for _, end := range []string{"\x01", "\x02\x01\x02", "\x03", "\x03x"} {
				refuseEntry(t, "E"+longer+"\x01"+end)
				refuseEntry(t, "E\x01"+longer+end)
				refuseEntry(t, "E"+longer+longer+end)
			}
		}
	}
	for _, longer := range longerForms(0) {
		refuseEntry(t, "E\x01"+longer+"\x01")
		refuseEntry(t, "E"+longer+"\x01\x01")
	}
	for _, endless := range []string{strings.Repeat("\x80", 40), strings.Repeat("\xff", 5000)} {
		refuseEntry(t, "E"+endless)
		refuseEntry(t, "E"+endless+"\x01\x01\x01")
		refuseEntry(t, "E\x01"+endless)
		refuseEntry(t, "E\x01"+endless+"\x01\x01")
	}
}

// A text cut in its numbers or ahead of its Kind is none; cut in its Data it may be that of an entry with less.
func TestReadEntryOfCutTexts(t *testing.T) {
	for _, e := range rightEntries() {
		for _, index := range []int{1, 127, 128, 16384, impl.MaxIndex} {
			text := entryByHand(index, e)
			for cut := range len(text) - len(e.Data) {
				refuseEntry(t, text[:cut])
			}
			for cut := len(text) - len(e.Data); cut < len(text); cut++ {
				less := e
				less.Data = text[len(text)-len(e.Data) : cut]
				if rightByHand(less) {
					wantEntry(t, text[:cut], index, less)
				} else {
					refuseEntry(t, text[:cut])
				}
			}
		}
	}
	refuseEntry(t, "E")
	refuseEntry(t, "E\x01")
	refuseEntry(t, "E\x01\x01")
	refuseEntry(t, "E\x01\x01\x02")
}

func TestReadEntryRefusesBytesBehind(t *testing.T) {
	for _, behind := range []string{"\x00", "\x01", "x", "\xff", "E\x01\x01\x01"} {
		refuseEntry(t, entryByHand(1, none(1))+behind)
		refuseEntry(t, entryByHand(1, confEntry(1, 1, 2, 3, 4))+behind)
		refuseEntry(t, entryByHand(1, command(1, longText(impl.MaxData)))+behind)
	}
	refuseEntry(t, entryByHand(1, command(1, longText(impl.MaxText))))
	refuseEntry(t, entryByHand(1, command(1, longText(3*impl.MaxText))))
}

// Texts drawn about those of entries, held against every reading that a text could have.
func TestDrawnEntryTexts(t *testing.T) {
	next := draws(55)
	entries := rightEntries()
	found := 0
	for range 60000 {
		text := []byte(entryByHand(edgeIndexes[next(len(edgeIndexes))], entries[next(len(entries))]))
		for range next(3) {
			at := next(len(text))
			switch next(4) {
			case 0:
				text[at] ^= byte(1 << next(8))
			case 1:
				text[at] = byte(next(6))
			case 2:
				text = slices.Insert(text, at, byte(next(256)))
			case 3:
				text = slices.Delete(text, at, min(at+1+next(3), len(text)))
			}
			if len(text) == 0 {
				break
			}
		}
		if _, _, ok := entryByTrial(string(text)); ok {
			found++
		}
		holdEntryText(t, string(text))
	}
	if found < 10000 || found > 50000 {
		t.Errorf("%d of the texts drawn are those of entries", found)
	}
}

func TestMost(t *testing.T) {
	for _, c := range []struct {
		conf, list []int
		want       bool
	}{
		{[]int{1, 2, 3}, []int{1, 3}, true},
		{[]int{1, 2}, []int{1}, false},
		{[]int{1, 2}, []int{2, 1}, true},
		{[]int{1}, nil, false}, {[]int{1}, []int{1}, true}, {[]int{3}, []int{1, 2, 4}, false},
		{[]int{1, 2, 3}, []int{2}, false}, {[]int{1, 2, 3}, []int{3, 2, 1}, true},
		{[]int{1, 2, 3, 4}, []int{4}, false}, {[]int{1, 2, 3, 4}, []int{4, 1}, false}, {[]int{1, 2, 3, 4}, []int{4, 1, 2}, true},
		// Numbers that stand there twice count once.
		{[]int{1, 2, 3}, []int{1, 1}, false}, {[]int{1, 2, 3}, []int{1, 1, 1, 1, 1}, false}, {[]int{1, 2, 3}, []int{1, 1, 2}, true},
		{[]int{1, 2}, []int{2, 2, 2}, false}, {[]int{1, 2, 3, 4}, []int{1, 2, 2, 1}, false},
		// Numbers that are not in conf do not count.
		{[]int{1, 2, 3}, []int{1, 4}, false}, {[]int{1, 3}, []int{2, 4}, false}, {[]int{1, 2, 3}, []int{0, -1, 4, 5, 257, 258, math.MaxInt, math.MinInt}, false},
		{[]int{1, 2, 3}, []int{9, 1, 9, 2, 9}, true}, {[]int{2, 4}, []int{1, 2, 3}, false},
	} {
		if impl.Most(c.conf, c.list) != c.want {
			t.Errorf("Most(%v, %v) is %v", c.conf, c.list, !c.want)
		}
	}
}

// Promise 5: most of a conf is more than half of it, whatever else stands in the list.
func TestMostIsMoreThanHalf(t *testing.T) {
	atHalf := 0
	for _, conf := range rightConfs() {
		for _, chosen := range append(rightConfs(), nil) {
			in := 0
			for _, node := range chosen {
				if slices.Contains(conf, node) {
					in++
				}
			}
			if 2*in == len(conf) {
				atHalf++
			}
			want := float64(in) > float64(len(conf))/2
			back := slices.Clone(chosen)
			slices.Reverse(back)
			for _, list := range [][]int{chosen, back, slices.Repeat(chosen, 3), append(back, 0, 5, -1, 256+conf[0], 256+conf[0])} {
				if impl.Most(conf, list) != want {
					t.Errorf("Most(%v, %v) is %v", conf, list, !want)
				}
			}
		}
	}
	if atHalf == 0 {
		t.Error("no list has just half of a conf")
	}
}

func TestMostOfWrongConfs(t *testing.T) {
	for _, conf := range wrongConfs() {
		for _, list := range [][]int{nil, {1}, {1, 2, 3, 4}, conf, {0, 1, 2, 3, 4, 5, 255, 256, 257, 258}} {
			if impl.Most(conf, list) {
				t.Errorf("Most(%v, %v) is true", conf, list)
			}
		}
	}
}

// Arguments with spare room behind them: nothing is written into them or there.
func TestConfArgumentsStay(t *testing.T) {
	room := []int{1, 2, 4, 77, 78, 79}
	given := []int{4, 2, 4, 9, 88, 89}
	before, givenBefore := slices.Clone(room), slices.Clone(given)
	impl.ConfOk(room[:3])
	impl.ConfText(room[:3])
	impl.Most(room[:3], given[:4])
	impl.Most(given[:4], room[:3])
	if !slices.Equal(room, before) || !slices.Equal(given, givenBefore) {
		t.Errorf("written into an argument: %v, %v", room, given)
	}
}

func TestEntriesAreNew(t *testing.T) {
	for _, e := range []impl.Entry{command(2, strings.Clone(everyByte()[:100])), command(2, strings.Clone("x")), confEntry(2, 1, 2, 3)} {
		text, _ := impl.EntryText(3, e)
		if liesIn(text, e.Data) {
			t.Errorf("EntryText of %s answers with the memory of its argument", shownEntry(e))
		}
		_, back, ok := impl.ReadEntry(text)
		if !ok || back != e || liesIn(back.Data, text) {
			t.Errorf("ReadEntry(%q) = %s, %v, or lies in its argument", text, shownEntry(back), ok)
		}
		_, again, _ := impl.ReadEntry(text)
		if liesIn(again.Data, back.Data) && len(back.Data) > 1 {
			t.Errorf("two answers of ReadEntry(%q) share memory", text)
		}
	}
	// What is done with one answer is not seen in the next.
	for _, conf := range rightConfs() {
		text := confByHand(conf)
		first, _ := impl.ReadConf(text)
		clear(first[:cap(first)])
		if second, ok := impl.ReadConf(text); !ok || !slices.Equal(second, conf) {
			t.Errorf("ReadConf(%q) = %v, %v behind a change of an earlier answer", text, second, ok)
		}
	}
}

func TestEntryConstants(t *testing.T) {
	got := []int{impl.MaxNodes, impl.MaxTerm, impl.MaxIndex, impl.MaxData, impl.EntryNone, impl.EntryConf, impl.EntryCommand}
	if want := []int{4, 100000, 1000000, 120, 1, 2, 3}; !slices.Equal(got, want) {
		t.Errorf("the constants are %v, not %v", got, want)
	}
}
