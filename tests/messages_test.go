package tests

import (
	"fmt"
	"math"
	"slices"
	"strings"
	"testing"

	"loop.example/g00127/impl"
)

// flagByHand is the byte of a flag.
func flagByHand(up bool) field {
	if up {
		return raw("\x01")
	}
	return raw("\x00")
}

// messagePieces are the fields of a message's text, also of one that is not right; an entry is one, behind its length.
func messagePieces(m impl.Message) []field {
	fields := slices.Concat(bytesFields(m.Kind, m.From, m.To), numbersFields(m.Term, m.Index, m.LogTerm, m.Commit))
	fields = append(fields, flagByHand(m.Ok), flagByHand(m.Last), num(len(m.Entries)))
	for _, e := range m.Entries {
		fields = append(fields, shortFields([]field{raw(entryByHand(1, e))})...)
	}
	return append(fields, num(len(m.Conf)), raw(confByHand(m.Conf)), num(len(m.Data)), raw(m.Data))
}

func messageByHand(m impl.Message) string { return textOf(messagePieces(m)) }

func rightMessageByHand(m impl.Message) bool {
	for _, n := range [][3]int{{m.Kind, 1, 6}, {m.From, 1, 4}, {m.To, 1, 4}, {m.Term, 0, 100000}, {m.LogTerm, 0, 100000}, {m.Index, 0, 1000000}, {m.Commit, 0, 1000000}} {
		if n[0] < n[1] || n[0] > n[2] {
			return false
		}
	}
	if m.From == m.To || len(m.Entries) > 4 || len(m.Data) > 60 {
		return false
	}
	if m.Kind != 3 && len(m.Entries) > 0 {
		return false
	}
	last := m.LogTerm
	for _, e := range m.Entries {
		if !rightByHand(e) || e.Term < last || e.Term > m.Term {
			return false
		}
		last = e.Term
	}
	if m.Kind == 5 {
		return isRightConf(m.Conf)
	}
	return len(m.Conf) == 0 && m.Data == "" && !m.Last
}

// messageByTrial takes the fields as they come, and asks for the text of that.
func messageByTrial(text string) (impl.Message, bool) {
	l := &loose{rest: text}
	var m impl.Message
	m.Kind = l.oneByte()
	m.From = l.oneByte()
	m.To = l.oneByte()
	m.Term = l.number()
	m.Index = l.number()
	m.LogTerm = l.number()
	m.Commit = l.number()
	m.Ok = l.oneByte() > 0
	m.Last = l.oneByte() > 0
	for range min(l.number(), 5) {
		_, e, _ := entryByTrial(l.take(l.number()))
		m.Entries = append(m.Entries, e)
	}
	for _, b := range []byte(l.take(l.number())) {
		m.Conf = append(m.Conf, int(b))
	}
	m.Data = l.take(l.number())
	if l.cut || !rightMessageByHand(m) || messageByHand(m) != text {
		return impl.Message{}, false
	}
	return m, true
}

func sameMessage(a, b impl.Message) bool {
	if !slices.Equal(a.Entries, b.Entries) || !slices.Equal(a.Conf, b.Conf) {
		return false
	}
	return a.Kind == b.Kind && a.From == b.From && a.To == b.To && a.Term == b.Term && a.Index == b.Index && a.LogTerm == b.LogTerm && a.Commit == b.Commit && a.Ok == b.Ok && a.Data == b.Data && a.Last == b.Last
}

func copyMessage(m impl.Message) impl.Message {
	m.Entries, m.Conf = slices.Clone(m.Entries), slices.Clone(m.Conf)
	return m
}

func shownMessage(m impl.Message) string {
	return fmt.Sprintf("{Kind %d, %d to %d, Term %d, Index %d, LogTerm %d, Commit %d, Ok %v, %d Entries %.300q, Conf %.40v, %d bytes %.70q, Last %v}", m.Kind, m.From, m.To, m.Term, m.Index, m.LogTerm, m.Commit, m.Ok, len(m.Entries), fmt.Sprint(m.Entries), fmt.Sprint(m.Conf), len(m.Data), m.Data, m.Last)
}

func wantMessage(t *testing.T, text string, want impl.Message) {
	t.Helper()
	if m, ok := impl.Decode(text); !ok || !sameMessage(m, want) {
		t.Fatalf("Decode(%.300q) = %s, %v; want %s, true", text, shownMessage(m), ok, shownMessage(want))
	}
}

func refuseMessage(t *testing.T, text string) {
	t.Helper()
	if m, ok := impl.Decode(text); ok || !sameMessage(m, impl.Message{}) {
		t.Fatalf("Decode(%.300q) of %d bytes = %s, %v; want nothing", text, len(text), shownMessage(m), ok)
	}
}

// holdMessageText holds Decode against what trial finds in the text, and says whether that is a message.
func holdMessageText(t *testing.T, text string) bool {
	t.Helper()
	m, ok := messageByTrial(text)
	if !ok {
		refuseMessage(t, text)
		return false
	}
	wantMessage(t, text, m)
	if again, ok := impl.Encode(m); !ok || again != text || !impl.MessageOk(m) {
		t.Fatalf("Encode(%s), read from %q, is %q, %v", shownMessage(m), text, again, ok)
	}
	return true
}

// holdEncode holds a message to be right or wrong in MessageOk and Encode, and answers with its bytes.
func holdEncode(t *testing.T, m impl.Message, right bool) string {
	t.Helper()
	before := copyMessage(m)
	if impl.MessageOk(m) != right {
		t.Fatalf("MessageOk(%s) is %v", shownMessage(m), !right)
	}
	text, ok := impl.Encode(m)
	if ok != right || right && text != messageByHand(m) || !right && text != "" {
		t.Fatalf("Encode(%s) = %.300q, %v; want %v", shownMessage(m), text, ok, right)
	}
	if !sameMessage(m, before) {
		t.Fatalf("written into a message: %s", shownMessage(m))
	}
	return text
}

// holdMessage holds a message to be right or wrong in all that is told of it; a right one comes back.
func holdMessage(t *testing.T, m impl.Message, right bool) {
	t.Helper()
	if rightMessageByHand(m) != right {
		t.Fatalf("the test is wrong: of the message %s it says %v", shownMessage(m), right)
	}
	text := holdEncode(t, m, right)
	if right {
		wantMessage(t, text, m)
	} else {
		// A byte may hold less than was told: then it is another message's.
		holdMessageText(t, messageByHand(m))
	}
}

// bareMessage has nothing but what each Kind must have.
func bareMessage(kind int) impl.Message {
	m := impl.Message{Kind: kind, From: 1, To: 2}
	if kind == impl.AskInstall {
		m.Conf = []int{3}
	}
	return m
}

// plainMessages are one of each Kind, of which no two numbers are alike, without what only some Kinds may have.
func plainMessages() (list []impl.Message) {
	for kind := 1; kind <= 6; kind++ {
		m := impl.Message{Kind: kind, From: 4, To: 2, Term: 300, Index: 70, LogTerm: 11, Commit: 65}
		if kind == impl.AskInstall {
			m.Conf = []int{1, 2, 4}
		}
		list = append(list, m)
	}
	return list
}

// carrying is an AskAppend of these entries, whose Terms are in LogTerm 5 .. Term 9.
func carrying(entries ...impl.Entry) impl.Message {
	return impl.Message{Kind: impl.AskAppend, From: 3, To: 1, Term: 9, Index: 12, LogTerm: 5, Commit: 10, Entries: entries}
}

// installing is an AskInstall.
func installing(data string, last bool, conf ...int) impl.Message {
	return impl.Message{Kind: impl.AskInstall, From: 2, To: 3, Term: 6, Index: 20, LogTerm: 4, Commit: 120, Conf: conf, Data: data, Last: last}
}

// fullMessages have what only some Kinds may have.
func fullMessages() []impl.Message {
	return []impl.Message{
		carrying(none(5)), carrying(confEntry(9, 1, 3)), carrying(command(7, "a command")), carrying(command(5, "")),
		carrying(none(5), confEntry(5, 1, 2, 3, 4), command(8, "x"), command(9, "\x00\xff")),
		installing("", false, 1), installing("a piece", false, 1, 2, 3), installing("the last", true, 2, 4), installing("", true, 1, 2, 3, 4),
	}
}

// greatestMessages meet all limits at once.
func greatestMessages() []impl.Message {
	asked := impl.Message{Kind: impl.AskAppend, From: 4, To: 3, Term: 100000, Index: 1000000, LogTerm: 100000, Commit: 1000000, Ok: true}
	for range 4 {
		asked.Entries = append(asked.Entries, command(100000, longText(120)))
	}
	install := asked
	install.Kind, install.Entries = impl.AskInstall, nil
	install.Conf, install.Data, install.Last = []int{1, 2, 3, 4}, longText(60), true
	return []impl.Message{asked, install}
}

func rightMessages() []impl.Message {
	list := slices.Concat(plainMessages(), fullMessages(), greatestMessages())
	for kind := 1; kind <= 6; kind++ {
		list = append(list, bareMessage(kind))
	}
	for _, m := range slices.Clone(list) {
		m.Ok = !m.Ok
		list = append(list, m)
	}
	for _, conf := range rightConfs() {
		list = append(list, installing("data", false, conf...))
	}
	for _, e := range rightEntries() {
		m := carrying(e)
		m.Term, m.LogTerm = e.Term, e.Term
		list = append(list, m)
		m.Term, m.LogTerm = impl.MaxTerm, 0
		list = append(list, m)
	}
	for size := range impl.ChunkSize + 1 {
		list = append(list, installing(longText(200)[130-size:130], size%2 == 0, 1, 2))
	}
	for _, n := range append([]int{0}, edgeIndexes...) {
		for _, m := range append(plainMessages(), fullMessages()...) {
			m.Index, m.Commit = n, impl.MaxIndex-n
			list = append(list, m)
		}
	}
	return list
}

// baseMessages are few, and of all Kinds.
func baseMessages() []impl.Message {
	return slices.Concat(plainMessages(), fullMessages())
}

// Each Kind in bytes, written out.
func TestMessageTextBytes(t *testing.T) {
	for _, c := range []struct {
		m    impl.Message
		want string
	}{
		{impl.Message{Kind: impl.AskVote, From: 1, To: 2, Term: 3, Index: 4, LogTerm: 2}, "\x01\x01\x02\x03\x04\x02\x00\x00\x00\x00\x00\x00"},
		{impl.Message{Kind: impl.AskVote, From: 1, To: 2}, "\x01\x01\x02\x00\x00\x00\x00\x00\x00\x00\x00\x00"},
		{impl.Message{Kind: impl.TellVote, From: 4, To: 3, Term: 127, Ok: true}, "\x02\x04\x03\x7f\x00\x00\x00\x01\x00\x00\x00\x00"},
		{impl.Message{Kind: impl.TellVote, From: 4, To: 3, Term: 128}, "\x02\x04\x03\x80\x01\x00\x00\x00\x00\x00\x00\x00\x00"},
		{impl.Message{Kind: impl.AskAppend, From: 2, To: 1, Term: 300, Index: 5, LogTerm: 6, Commit: 7}, "\x03\x02\x01\xac\x02\x05\x06\x07\x00\x00\x00\x00\x00"},
		{impl.Message{Kind: impl.AskAppend, From: 2, To: 1, Term: 9, Index: 5, LogTerm: 6, Commit: 7, Entries: []impl.Entry{{Term: 6, Kind: impl.EntryNone}}},
			"\x03\x02\x01\x09\x05\x06\x07\x00\x00" + "\x01" + "\x04E\x01\x06\x01" + "\x00\x00"},
		{impl.Message{Kind: impl.AskAppend, From: 2, To: 1, Term: 300, Index: 1000000, LogTerm: 0, Commit: 16384, Ok: true, Entries: []impl.Entry{{Term: 0, Kind: impl.EntryNone}, {Term: 6, Kind: impl.EntryConf, Data: "\x01\x02\x04"}, {Term: 6, Kind: impl.EntryCommand, Data: "hi"}, {Term: 300, Kind: impl.EntryCommand}}},
			"\x03\x02\x01\xac\x02\xc0\x84\x3d\x00\x80\x80\x01\x01\x00" + "\x04" + "\x04E\x01\x00\x01" + "\x07E\x01\x06\x02\x01\x02\x04" + "\x06E\x01\x06\x03hi" + "\x05E\x01\xac\x02\x03" + "\x00\x00"},
		{impl.Message{Kind: impl.TellAppend, From: 3, To: 4, Term: 2, Index: 1000, LogTerm: 0, Commit: 1, Ok: true}, "\x04\x03\x04\x02\xe8\x07\x00\x01\x01\x00\x00\x00\x00"},
		{impl.Message{Kind: impl.AskInstall, From: 1, To: 4, Term: 2, Index: 30, LogTerm: 1, Commit: 60, Conf: []int{1, 2, 4}, Data: "abc", Last: true}, "\x05\x01\x04\x02\x1e\x01\x3c\x00\x01\x00\x03\x01\x02\x04\x03abc"},
		{impl.Message{Kind: impl.AskInstall, From: 1, To: 4, Term: 2, Index: 30, LogTerm: 1, Commit: 60, Ok: true, Conf: []int{3}, Data: "\x00"}, "\x05\x01\x04\x02\x1e\x01\x3c\x01\x00\x00\x01\x03\x01\x00"},
		{impl.Message{Kind: impl.AskInstall, From: 1, To: 4, Term: 100000, Index: 1000000, LogTerm: 100000, Commit: 1000000, Conf: []int{1, 2, 3, 4}}, "\x05\x01\x04\xa0\x8d\x06\xc0\x84\x3d\xa0\x8d\x06\xc0\x84\x3d\x00\x00\x00\x04\x01\x02\x03\x04\x00"},
		{impl.Message{Kind: impl.AskInstall, From: 1, To: 4, Conf: []int{1}, Data: longText(60), Last: true}, "\x05\x01\x04\x00\x00\x00\x00\x00\x01\x00\x01\x01\x3c" + longText(60)},
		{impl.Message{Kind: impl.TellInstall, From: 4, To: 1, Term: 2, Index: 30, Commit: 60}, "\x06\x04\x01\x02\x1e\x00\x3c\x00\x00\x00\x00\x00"},
		{impl.Message{Kind: impl.TellInstall, From: 4, To: 1, Term: 2, Index: 30, LogTerm: 9, Ok: true}, "\x06\x04\x01\x02\x1e\x09\x00\x01\x00\x00\x00\x00"},
	} {
		if s, ok := impl.Encode(c.m); !ok || s != c.want {
			t.Errorf("Encode(%s) = %q, %v; want %q, true", shownMessage(c.m), s, ok, c.want)
		}
		wantMessage(t, c.want, c.m)
		holdMessage(t, c.m, true)
	}
}

// Promise 15: each message comes back from its bytes, and no two have the same.
func TestMessagesComeBack(t *testing.T) {
	count := map[int]int{}
	told := map[string]impl.Message{}
	for _, m := range rightMessages() {
		text, ok := impl.Encode(m)
		if back, read := impl.Decode(text); !ok || !read || !sameMessage(back, m) || !impl.MessageOk(back) {
			t.Errorf("%s comes back from %q as %s, %v, %v", shownMessage(m), text, shownMessage(back), ok, read)
		}
		holdMessage(t, m, true)
		if !holdMessageText(t, text) {
			t.Errorf("trial does not find the message %s", shownMessage(m))
		}
		if other, there := told[text]; there && !sameMessage(other, m) {
			t.Errorf("%s and %s have the same bytes", shownMessage(m), shownMessage(other))
		}
		told[text] = m
		count[m.Kind]++
	}
	if len(count) != 6 {
		t.Errorf("the right messages are of the Kinds %v", count)
	}
}

// holdEachMessage makes one change in a message of each Kind, which is right then or not by its Kind.
func holdEachMessage(t *testing.T, change func(m *impl.Message), right func(kind int) bool) {
	t.Helper()
	for _, m := range plainMessages() {
		kind := m.Kind
		change(&m)
		holdMessage(t, m, right(kind))
	}
}

func TestMessageKinds(t *testing.T) {
	for kind := 1; kind <= 6; kind++ {
		holdMessage(t, bareMessage(kind), true)
	}
	for _, kind := range []int{0, 7, 8, -1, -6, 128, 255, 256, 257, 258, 259, 260, 261, 262, math.MinInt, math.MaxInt} {
		for _, m := range baseMessages() {
			m.Kind = kind
			holdMessage(t, m, false)
		}
	}
	// An AskInstall has a Conf, and no other Kind has one.
	for kind := 1; kind <= 6; kind++ {
		holdEachMessage(t, func(m *impl.Message) { m.Kind = kind }, func(was int) bool { return was == kind || was != 5 && kind != 5 })
	}
	for _, m := range fullMessages() {
		for kind := 1; kind <= 6; kind++ {
			changed := m
			changed.Kind = kind
			holdMessage(t, changed, kind == m.Kind)
		}
	}
	holdMessage(t, impl.Message{}, false)
	for _, kind := range []int{0, 1, 2, 3, 4, 5, 6, 7} {
		holdMessage(t, impl.Message{Kind: kind}, false)
	}
}

func TestMessageNodes(t *testing.T) {
	nodes := []int{-1, 0, 1, 2, 3, 4, 5, 6, 255, 256, 257, 258, 260, math.MinInt, math.MaxInt}
	for _, from := range nodes {
		for _, to := range nodes {
			right := from >= 1 && from <= 4 && to >= 1 && to <= 4 && from != to
			holdEachMessage(t, func(m *impl.Message) { m.From, m.To = from, to }, func(int) bool { return right })
		}
	}
	for node := 1; node <= 4; node++ {
		for _, m := range baseMessages() {
			m.From, m.To = node, node
			holdMessage(t, m, false)
			refuseMessage(t, messageByHand(m))
		}
	}
}

// Each number on its own: it meets its limits, and passes them by one and by far.
func TestMessageNumbers(t *testing.T) {
	for _, c := range []struct {
		most   int
		change func(m *impl.Message, n int)
	}{
		{100000, func(m *impl.Message, n int) { m.Term = n }},
		{1000000, func(m *impl.Message, n int) { m.Index = n }},
		{100000, func(m *impl.Message, n int) { m.LogTerm = n }},
		{1000000, func(m *impl.Message, n int) { m.Commit = n }},
	} {
		for _, n := range []int{0, 1, 2, 126, 127, 128, 129, 16383, 16384, 99999, 100000, c.most - 1, c.most} {
			holdEachMessage(t, func(m *impl.Message) { c.change(m, n) }, always)
		}
		for _, n := range []int{-1, -2, -128, -256, c.most + 1, c.most + 2, 1000000001, 1000000000, math.MinInt, math.MaxInt} {
			holdEachMessage(t, func(m *impl.Message) { c.change(m, n) }, never)
			for _, m := range fullMessages() {
				c.change(&m, n)
				holdMessage(t, m, false)
			}
		}
	}
	// Of a number that is passed by one the bytes are no message's.
	for _, c := range [][4]int{{100001, 0, 0, 0}, {0, 1000001, 0, 0}, {0, 0, 100001, 0}, {0, 0, 0, 1000001}} {
		for kind := 1; kind <= 6; kind++ {
			m := bareMessage(kind)
			m.Term, m.Index, m.LogTerm, m.Commit = c[0], c[1], c[2], c[3]
			refuseMessage(t, messageByHand(m))
		}
	}
}

// Ok is true or false of each Kind.
func TestMessageOkOfEachKind(t *testing.T) {
	for _, m := range append(rightMessages(), fullMessages()...) {
		for _, ok := range []bool{true, false} {
			m.Ok = ok
			holdMessage(t, m, true)
		}
	}
}

// Last is false but of AskInstall, of which it may be either, with Data and without.
func TestMessageLast(t *testing.T) {
	holdEachMessage(t, func(m *impl.Message) { m.Last = true }, only(impl.AskInstall))
	holdEachMessage(t, func(m *impl.Message) { m.Last, m.Ok = true, true }, only(impl.AskInstall))
	for _, m := range fullMessages() {
		m.Last = true
		holdMessage(t, m, m.Kind == impl.AskInstall)
	}
	for _, data := range []string{"", "x", longText(60)} {
		holdMessage(t, installing(data, true, 1), true)
		holdMessage(t, installing(data, false, 1), true)
	}
}

func TestMessageData(t *testing.T) {
	for size := range 2*impl.ChunkSize + 10 {
		for _, data := range []string{longText(size), strings.Repeat("\x00", size), strings.Repeat("\xff", size)} {
			right := never
			if size == 0 {
				right = always
			} else if size <= 60 {
				right = only(impl.AskInstall)
			}
			holdEachMessage(t, func(m *impl.Message) { m.Data = data }, right)
		}
	}
	for _, size := range []int{61, 127, 128, 316, impl.MaxText, impl.MaxText + 1, 1 << 20} {
		holdEachMessage(t, func(m *impl.Message) { m.Data = longText(size) }, never)
	}
	// Bytes are counted, not signs.
	holdEachMessage(t, func(m *impl.Message) { m.Data = strings.Repeat("ü", 30) }, only(impl.AskInstall))
	holdEachMessage(t, func(m *impl.Message) { m.Data = strings.Repeat("ü", 31) }, never)
	refuseMessage(t, messageByHand(installing(longText(61), false, 1)))
}

func TestMessageConf(t *testing.T) {
	for _, conf := range rightConfs() {
		holdEachMessage(t, func(m *impl.Message) { m.Conf = conf }, only(impl.AskInstall))
		for _, m := range fullMessages() {
			m.Conf = conf
			holdMessage(t, m, m.Kind == impl.AskInstall)
		}
	}
	for _, conf := range wrongConfs() {
		right := never
		if len(conf) == 0 {
			right = func(kind int) bool { return kind != impl.AskInstall }
		}
		holdEachMessage(t, func(m *impl.Message) { m.Conf = conf }, right)
	}
	// With all else that an AskInstall may have.
	for _, conf := range wrongConfs() {
		holdMessage(t, installing("data", true, conf...), false)
	}
	for _, conf := range [][]int{{}, {0}, {5}, {2, 1}, {1, 1}, {1, 2, 3, 4, 4}, {1, 2, 3, 4, 5}} {
		refuseMessage(t, messageByHand(installing("data", false, conf...)))
	}
}

// How many entries, and of which Kind of message.
func TestMessageEntryCounts(t *testing.T) {
	for count := range 12 {
		for _, e := range []impl.Entry{none(300), none(11), confEntry(100, 1), command(12, "x"), command(300, longText(120))} {
			entries := make([]impl.Entry, count)
			for at := range entries {
				entries[at] = e
			}
			right := never
			if count == 0 {
				right = always
			} else if count <= 4 {
				right = only(impl.AskAppend)
			}
			holdEachMessage(t, func(m *impl.Message) { m.Entries = entries }, right)
		}
	}
	for _, size := range []int{127, 128, 129, 256, 257, 258, 259, 260} {
		holdMessage(t, carrying(slices.Repeat([]impl.Entry{none(5)}, size)...), false)
	}
	install := installing("data", true, 1, 2)
	install.Entries = []impl.Entry{none(5)}
	holdMessage(t, install, false)
}

// One entry that is not right, at each place among right ones.
func TestMessageOfWrongEntries(t *testing.T) {
	wide := carrying()
	wide.Term, wide.LogTerm = 100000, 0
	for _, e := range wrongEntries() {
		for count := 1; count <= 4; count++ {
			for place := range count {
				entries := slices.Concat(slices.Repeat([]impl.Entry{none(0)}, place), []impl.Entry{e}, slices.Repeat([]impl.Entry{none(100000)}, count-place-1))
				m := wide
				m.Entries = entries
				holdMessage(t, m, false)
			}
		}
	}
	for _, e := range []impl.Entry{{Kind: 1, Data: "x"}, {Kind: 2}, {Kind: 2, Data: "\x05"}, {Kind: 2, Data: "\x02\x01"}, {Kind: 3, Data: longText(121)}, {Kind: 0}, {Kind: 4}, {Kind: 1, Term: 100001}} {
		m := wide
		m.Entries = []impl.Entry{e}
		refuseMessage(t, messageByHand(m))
	}
}

// Every list of up to four Terms about LogTerm 5 and Term 7.
func TestMessageEntryTerms(t *testing.T) {
	right := 0
	var try func(terms []int)
	try = func(terms []int) {
		m := carrying()
		m.Term = 7
		last, rises := 5, true
		for _, term := range terms {
			m.Entries = append(m.Entries, none(term))
			rises = rises && term >= last && term <= 7
			last = term
		}
		holdMessage(t, m, rises)
		if rises {
			right++
		} else {
			refuseMessage(t, messageByHand(m))
		}
		if len(terms) < 4 {
			for term := 4; term <= 8; term++ {
				try(append(slices.Clone(terms), term))
			}
		}
	}
	try(nil)
	// Of lists that do not fall there are 1, 3, 6, 10 and 15.
	if right != 35 {
		t.Errorf("%d lists of Terms are right", right)
	}
}

// Term and LogTerm are held against each other by way of entries alone.
func TestMessageTermAndLogTerm(t *testing.T) {
	terms := []int{0, 1, 2, 127, 128, 99999, 100000}
	for _, term := range terms {
		for _, logTerm := range terms {
			holdEachMessage(t, func(m *impl.Message) { m.Term, m.LogTerm = term, logTerm }, always)
			for _, of := range terms {
				for count := 1; count <= 4; count++ {
					for _, e := range []impl.Entry{none(of), confEntry(of, 2), command(of, "x")} {
						m := carrying(slices.Repeat([]impl.Entry{e}, count)...)
						m.Term, m.LogTerm = term, logTerm
						holdMessage(t, m, of >= logTerm && of <= term)
					}
				}
			}
		}
	}
}

// messageChanges are a message with one thing of it changed.
func messageChanges(m impl.Message) (list []impl.Message) {
	change := func(changes ...func(m *impl.Message)) {
		for _, change := range changes {
			changed := copyMessage(m)
			change(&changed)
			list = append(list, changed)
		}
	}
	numbers := append([]int{1, 2, 3, 4, 5, 6, 7, 10, 127, 128, 255, 256, 257, 261, 99999, 100000, 100001, 1000000}, wrongIndex...)
	for _, n := range numbers {
		change(
			func(m *impl.Message) { m.Kind = n }, func(m *impl.Message) { m.From = n }, func(m *impl.Message) { m.To = n }, func(m *impl.Message) { m.Term = n }, func(m *impl.Message) { m.Index = n }, func(m *impl.Message) { m.LogTerm = n }, func(m *impl.Message) { m.Commit = n },
			func(m *impl.Message) { m.Conf = []int{n} }, func(m *impl.Message) { m.Conf = append(m.Conf, n) }, func(m *impl.Message) { m.Entries = append(m.Entries, none(n)) }, func(m *impl.Message) { m.Entries = []impl.Entry{none(n)} }, func(m *impl.Message) { m.Entries = []impl.Entry{{Term: m.Term, Kind: n}} },
		)
	}
	for _, data := range []string{"", "x", "\x00", longText(59), longText(60), longText(61), longText(128), longText(20001)} {
		change(func(m *impl.Message) { m.Data = data }, func(m *impl.Message) { m.Entries = []impl.Entry{command(m.Term, data)} })
	}
	change(
		func(m *impl.Message) { m.Ok = !m.Ok }, func(m *impl.Message) { m.Last = !m.Last }, func(m *impl.Message) { m.Entries = nil }, func(m *impl.Message) { m.Entries = []impl.Entry{} }, func(m *impl.Message) { m.Conf = nil }, func(m *impl.Message) { m.Conf = []int{} },
		func(m *impl.Message) { m.From, m.To = m.To, m.From }, func(m *impl.Message) { m.Term, m.LogTerm = m.LogTerm, m.Term }, func(m *impl.Message) { slices.Reverse(m.Entries) }, func(m *impl.Message) { slices.Reverse(m.Conf) },
	)
	return list
}

// Each reason for which a message is not right, by itself, in messages of each Kind.
func TestEncodeRefuses(t *testing.T) {
	count := map[string]int{}
	for _, base := range baseMessages() {
		holdMessage(t, base, true)
		for _, m := range messageChanges(base) {
			right := rightMessageByHand(m)
			holdMessage(t, m, right)
			count[fmt.Sprint(base.Kind, " ", right)]++
		}
	}
	for kind := 1; kind <= 6; kind++ {
		if count[fmt.Sprint(kind, " true")] < 30 || count[fmt.Sprint(kind, " false")] < 100 {
			t.Errorf("of the changed messages there are %v", count)
		}
	}
}

func TestDecodeRefuses(t *testing.T) {
	refuseMessage(t, "")
	for _, text := range []string{"\x01", "\x01\x01\x02", "\x01\x01\x02\x03\x04\x02\x00\x00\x00\x00\x00", "\x01\x01\x01\x00\x00\x00\x00\x00\x00\x00\x00\x00", "\x00\x01\x02\x00\x00\x00\x00\x00\x00\x00\x00\x00", "\x07\x01\x02\x00\x00\x00\x00\x00\x00\x00\x00\x00", "\x05\x01\x02\x00\x00\x00\x00\x00\x00\x00\x00\x00", "a message", everyByte(), longText(20000), longText(20001)} {
		refuseMessage(t, text)
	}
	for size := range 200 {
		for _, b := range []string{"\x00", "\x01", "\x02", "\x03", "\x05", "\x06", "\x80", "\xff", "E", "x"} {
			refuseMessage(t, strings.Repeat(b, size))
		}
	}
	// The bytes of a right message are just these; what a Kind never has is refused also where it is told rightly.
	wantMessage(t, "\x04\x01\x02\x00\x00\x00\x00\x00\x00\x00\x00\x00", bareMessage(impl.TellAppend))
	for _, kind := range []string{"\x01", "\x02", "\x04", "\x06"} {
		refuseMessage(t, kind+"\x01\x02\x05\x00\x00\x00\x00\x00\x01\x04E\x01\x05\x01\x00\x00")
		refuseMessage(t, kind+"\x01\x02\x05\x00\x00\x00\x00\x01\x00\x00\x00")
		refuseMessage(t, kind+"\x01\x02\x05\x00\x00\x00\x00\x00\x00\x01\x01\x00")
		refuseMessage(t, kind+"\x01\x02\x05\x00\x00\x00\x00\x00\x00\x00\x01x")
	}
	refuseMessage(t, "\x03\x01\x02\x05\x00\x00\x00\x00\x01\x00\x00\x00")
	refuseMessage(t, "\x03\x01\x02\x05\x00\x00\x00\x00\x00\x00\x01\x01\x00")
	refuseMessage(t, "\x03\x01\x02\x05\x00\x00\x00\x00\x00\x00\x00\x01x")
	refuseMessage(t, "\x05\x01\x02\x05\x00\x00\x00\x00\x00\x01\x04E\x01\x05\x01\x01\x01\x00")
	wantMessage(t, "\x03\x01\x02\x05\x00\x00\x00\x00\x00\x01\x04E\x01\x05\x01\x00\x00", impl.Message{Kind: impl.AskAppend, From: 1, To: 2, Term: 5, Entries: []impl.Entry{none(5)}})
	wantMessage(t, "\x05\x01\x02\x05\x00\x00\x00\x00\x01\x00\x01\x01\x01x", impl.Message{Kind: impl.AskInstall, From: 1, To: 2, Term: 5, Conf: []int{1}, Data: "x", Last: true})
}

// Each field ends where it tells, so that no beginning of a text is one, and nothing stands behind it.
func TestDecodeOfCutTexts(t *testing.T) {
	for _, m := range slices.Concat(baseMessages(), greatestMessages()) {
		text := messageByHand(m)
		wantMessage(t, text, m)
		for cut := range len(text) {
			refuseMessage(t, text[:cut])
			holdMessageText(t, text[cut+1:])
			holdMessageText(t, text[:cut]+text[cut+1:])
		}
		for b := range 256 {
			one := string([]byte{byte(b)})
			refuseMessage(t, text+one)
			holdMessageText(t, one+text)
		}
		for _, behind := range []string{"\x00\x00", "\x80\x00", text, longText(100)} {
			refuseMessage(t, text+behind)
		}
	}
}

// Each byte turned into each other one: what is read is none, or the message whose bytes these are.
func TestDecodeOfTurnedBytes(t *testing.T) {
	others, nothing := 0, 0
	for _, m := range slices.Concat(baseMessages(), greatestMessages()) {
		text := messageByHand(m)
		for at := range len(text) {
			for b := range 256 {
				turned := []byte(text)
				turned[at] = byte(b)
				if string(turned) == text {
					continue
				}
				if got, ok := impl.Decode(string(turned)); ok && sameMessage(got, m) {
					t.Errorf("Decode of %q, turned at %d to %d, is the same message", text, at, b)
				}
				if holdMessageText(t, string(turned)) {
					others++
				} else {
					nothing++
				}
			}
		}
	}
	if others < 3000 || nothing < 30000 {
		t.Errorf("of the turned texts %d are those of other messages, and %d of none", others, nothing)
	}
}

// A byte of Ok or Last is 1 or 0.
func TestDecodeOfFlags(t *testing.T) {
	for _, m := range slices.Concat(baseMessages(), greatestMessages()) {
		for _, c := range []struct {
			place int
			up    func(m *impl.Message)
			down  func(m *impl.Message)
			free  bool
		}{
			{7, func(m *impl.Message) { m.Ok = true }, func(m *impl.Message) { m.Ok = false }, true},
			{8, func(m *impl.Message) { m.Last = true }, func(m *impl.Message) { m.Last = false }, m.Kind == impl.AskInstall},
		} {
			fields := messagePieces(m)
			for b := range 256 {
				fields[c.place] = raw(string([]byte{byte(b)}))
				want := m
				switch {
				case b == 0:
					c.down(&want)
				case b == 1 && c.free:
					c.up(&want)
				default:
					refuseMessage(t, textOf(fields))
					continue
				}
				wantMessage(t, textOf(fields), want)
			}
			// Neither is a number that goes on.
			for _, wrong := range []string{"", "\x80\x00", "\x81\x00", "\x00\x00", "\x01\x00"} {
				fields[c.place] = raw(wrong)
				refuseMessage(t, textOf(fields))
			}
		}
	}
}

// Each number of a text in a longer form, also those inside an entry, whose length is told as it is then.
func TestDecodeRefusesLongerForms(t *testing.T) {
	refuse := func(text string) {
		t.Helper()
		refuseMessage(t, text)
	}
	for _, m := range slices.Concat(baseMessages(), greatestMessages()) {
		holdLongerForms(messagePieces(m), refuse)
		for at, e := range m.Entries {
			fields := messagePieces(m)
			pieces := []field{raw("E"), num(1), num(e.Term), raw(string([]byte{byte(e.Kind)}) + e.Data)}
			holdLongerForms(pieces, func(text string) {
				t.Helper()
				fields[10+2*at], fields[11+2*at] = num(len(text)), raw(text)
				refuseMessage(t, textOf(fields))
			})
		}
		// A byte is no number that goes on.
		for place := range 3 {
			fields := messagePieces(m)
			fields[place] = raw(string([]byte{fields[place].text[0] | 128, 0}))
			refuseMessage(t, textOf(fields))
		}
	}
}

// A text may tell of more than there is, of less, or of as many as there are, but too many.
func TestDecodeOfWrongCounts(t *testing.T) {
	counts := []int{0, 1, 2, 3, 4, 5, 6, 7, 8, 59, 60, 61, 120, 124, 125, 126, 127, 128, 255, 256, 257, 19999, 20000, 20001, 100000, 100001, 1000000, 999999999, 1000000000, 1000000001, math.MaxInt}
	for _, m := range slices.Concat(baseMessages(), greatestMessages()) {
		fields := messagePieces(m)
		for place, f := range fields {
			if f.number < 0 {
				continue
			}
			for _, count := range counts {
				if count != f.number {
					other := slices.Clone(fields)
					other[place] = num(count)
					holdMessageText(t, textOf(other))
					holdMessageText(t, textOf(other[:place+1]))
					holdMessageText(t, textOf(other)+strings.Repeat("\x01", 100))
					holdMessageText(t, textOf(other)+strings.Repeat("\x00", 100))
				}
			}
		}
	}
	// As many entries, nodes and bytes as are told of, each right by itself.
	for count := range 12 {
		if text := messageByHand(carrying(slices.Repeat([]impl.Entry{none(5)}, count)...)); holdMessageText(t, text) != (count <= 4) {
			t.Errorf("a message with %d entries is read, or not", count)
		}
		conf := []int{1, 2, 3, 4, 5, 6, 7, 8, 9, 10, 11, 12}[:count]
		if text := messageByHand(installing("", false, conf...)); holdMessageText(t, text) != (count >= 1 && count <= 4) {
			t.Errorf("a message with the Conf %v is read, or not", conf)
		}
	}
	for _, size := range []int{0, 1, 59, 60, 61, 62, 127, 128, 20000, 20001} {
		if text := messageByHand(installing(longText(size), true, 1)); holdMessageText(t, text) != (size <= 60) {
			t.Errorf("a message with %d bytes of Data is read, or not", size)
		}
	}
	// More entries are told of than there may be; read as none, the text would end as one without entries does.
	for _, count := range []string{"\x05", "\x06", "\x7f", "\x80\x01", "\xff\xff\xff\x7f"} {
		refuseMessage(t, "\x03\x01\x02\x05\x00\x00\x00\x00\x00"+count+"\x00\x00")
		refuseMessage(t, "\x03\x01\x02\x05\x00\x00\x00\x00\x00"+count)
	}
}

// The text of each entry has the index 1, and no other one.
func TestDecodeOfOtherIndexes(t *testing.T) {
	for _, m := range append(fullMessages()[:5], greatestMessages()[0]) {
		for at, e := range m.Entries {
			for _, index := range append([]int{0, 13, 14, 1000001}, edgeIndexes...) {
				fields := messagePieces(m)
				text := entryByHand(index, e)
				fields[10+2*at], fields[11+2*at] = num(len(text)), raw(text)
				if index == 1 {
					wantMessage(t, textOf(fields), m)
				} else {
					refuseMessage(t, textOf(fields))
				}
			}
		}
	}
}

// A text of an entry that is none, at each place among those that are.
func TestDecodeOfWrongEntryTexts(t *testing.T) {
	wrong := []string{"", "E", "E\x01", "E\x01\x05", "e\x01\x05\x01", "E\x01\x05\x00", "E\x01\x05\x04", "E\x01\x05\x01\x00", "E\x01\x05\x02", "E\x01\x05\x02\x00", "E\x01\x05\x02\x05", "E\x01\x05\x02\x02\x01", "E\x01\x05\x03" + longText(121), "\x01\x05\x01", "EE\x01\x05\x01", "E\x01\x80\x00\x01", longText(60), longText(20000), longText(20001)}
	for _, text := range wrong {
		for count := range 4 {
			for place := range count + 1 {
				m := carrying(slices.Repeat([]impl.Entry{none(5)}, count+1)...)
				fields := messagePieces(m)
				fields[10+2*place], fields[11+2*place] = num(len(text)), raw(text)
				refuseMessage(t, textOf(fields))
			}
		}
	}
}

// drawnMessage is right, or about one that is.
func drawnMessage(next func(int) int) impl.Message {
	m := impl.Message{Kind: 1 + next(6), From: 1 + next(4), Ok: next(2) == 0}
	m.To = 1 + (m.From+next(3))%4
	m.Index, m.Commit = next([]int{3, 300, 1000001}[next(3)]), next([]int{3, 300, 1000001}[next(3)])
	m.Term, m.LogTerm = next([]int{3, 300, 100001}[next(3)]), next([]int{3, 300, 100001}[next(3)])
	switch m.Kind {
	case impl.AskAppend:
		m.LogTerm = next(m.Term + 1)
		term := m.LogTerm
		for range next(5) {
			term += next(2) * next(m.Term-term+1)
			from := next(256)
			m.Entries = append(m.Entries, []impl.Entry{none(term), confEntry(term, rightConfs()[next(15)]...), command(term, longText(1000)[from:from+next(121)])}[next(3)])
		}
	case impl.AskInstall:
		from := next(256)
		m.Conf, m.Data, m.Last = rightConfs()[next(15)], longText(1000)[from:from+next(61)], next(3) == 0
	}
	for next(4) == 0 {
		switch next(9) {
		case 0:
			m.Kind = next(8)
		case 1:
			m.From = next(6)
		case 2:
			m.Term = next(m.Term + 2)
		case 3:
			m.LogTerm = next(100003)
		case 4:
			m.Entries = append(slices.Clone(m.Entries), []impl.Entry{none(m.Term), none(next(5)), {Term: m.Term, Kind: next(5), Data: "x"}}[next(3)])
		case 5:
			m.Conf = append(slices.Clone(m.Conf), next(6))
		case 6:
			m.Data += "more"
		case 7:
			m.Last = !m.Last
		case 8:
			m.Index, m.Commit = []int{-1, 0, 1000000, 1000001}[next(4)], []int{-1, 0, 1000000, 1000001}[next(4)]
		}
	}
	return m
}

// Promise 15 of messages that are drawn, right ones and others.
func TestDrawnMessages(t *testing.T) {
	next := draws(15)
	count := map[string]int{}
	for range 40000 {
		m := drawnMessage(next)
		want := rightMessageByHand(m)
		holdMessage(t, m, want)
		count[fmt.Sprint(m.Kind, " ", want)]++
		if want {
			count[fmt.Sprint("entries ", len(m.Entries))]++
			count[fmt.Sprint("conf ", len(m.Conf))]++
			count[fmt.Sprint("ok ", m.Ok, " last ", m.Last)]++
		}
	}
	for kind := 1; kind <= 6; kind++ {
		if count[fmt.Sprint(kind, " true")] < 2000 || count[fmt.Sprint(kind, " false")] < 500 {
			t.Errorf("of the messages drawn there are %v", count)
		}
	}
	for size := range 5 {
		if count[fmt.Sprint("entries ", size)] < 300 || count[fmt.Sprint("conf ", size)] < 200 || count["ok true last true"] < 300 || count["ok false last true"] < 300 {
			t.Errorf("of the messages drawn there are %v", count)
		}
	}
}

// Texts drawn about those of messages, held against what trial finds in them.
func TestDrawnMessageTexts(t *testing.T) {
	next := draws(151)
	messages := slices.Concat(baseMessages(), greatestMessages())
	for len(messages) < 200 {
		if m := drawnMessage(next); rightMessageByHand(m) {
			messages = append(messages, m)
		}
	}
	found := map[bool]int{}
	for range 60000 {
		text := []byte(messageByHand(messages[next(len(messages))]))
		for range next(3) {
			at := next(len(text))
			switch next(4) {
			case 0:
				text[at] ^= byte(1 << next(8))
			case 1:
				text[at] = byte(next(7))
			case 2:
				text = slices.Insert(text, at, byte(next(256)))
			case 3:
				text = slices.Delete(text, at, at+1)
			}
		}
		found[holdMessageText(t, string(text))]++
	}
	if found[true] < 20000 || found[false] < 10000 {
		t.Errorf("of the texts drawn %d are those of messages, %d are not", found[true], found[false])
	}
}

// roomyMessage has spare room behind its lists, with something in it.
func roomyMessage(m impl.Message) impl.Message {
	m.Entries = append(slices.Clone(m.Entries), none(1), command(2, "behind"))[:len(m.Entries)]
	m.Conf = roomyInts(m.Conf)
	return m
}

// allOfMessage tells of a message all that it has, and what is behind its lists.
func allOfMessage(m impl.Message) string {
	return fmt.Sprintf("%q %q %v", fmt.Sprint(m), fmt.Sprint(m.Entries[:cap(m.Entries)]), m.Conf[:cap(m.Conf)])
}

// Nothing is written into an argument or behind it, no two answers share a list, nor do two lists of one.
func TestMessagesAreNew(t *testing.T) {
	for _, m := range append(rightMessages(), impl.Message{Entries: []impl.Entry{none(1)}, Conf: []int{1, 2}}, impl.Message{Kind: impl.AskAppend, From: 1, To: 2, Entries: []impl.Entry{none(1), none(0)}}) {
		m = roomyMessage(m)
		before := allOfMessage(m)
		impl.MessageOk(m)
		text, ok := impl.Encode(m)
		if allOfMessage(m) != before {
			t.Fatalf("written into a message, or behind it: %s", shownMessage(m))
		}
		if !ok {
			continue
		}
		first, _ := impl.Decode(text)
		second, _ := impl.Decode(text)
		clear(first.Entries[:cap(first.Entries)])
		if !slices.Equal(first.Conf, m.Conf) || !sameMessage(second, m) {
			t.Fatalf("lists of Decode(%q) share memory", text)
		}
		clear(first.Conf[:cap(first.Conf)])
		if !sameMessage(second, m) {
			t.Fatalf("two answers of Decode(%q) share memory", text)
		}
		want := copyMessage(m)
		clear(m.Entries[:cap(m.Entries)])
		clear(m.Conf[:cap(m.Conf)])
		if !sameMessage(second, want) || text != messageByHand(want) {
			t.Fatalf("an answer changes with the message %s", shownMessage(want))
		}
		wantMessage(t, text, want)
	}
}

func TestStringsOfMessagesAreNew(t *testing.T) {
	data, asked, conf := strings.Clone("some data"), strings.Clone("a command"), confByHand([]int{1, 2, 3})
	for _, m := range []impl.Message{installing(data, true, 1, 2), carrying(none(5), command(6, asked), impl.Entry{Term: 7, Kind: impl.EntryConf, Data: conf}, command(9, asked))} {
		text, _ := impl.Encode(m)
		again, _ := impl.Encode(m)
		if liesIn(text, data) || liesIn(text, asked) || liesIn(text, conf) || liesIn(text, again) {
			t.Errorf("Encode(%s) answers with memory of others", shownMessage(m))
		}
		first, _ := impl.Decode(text)
		second, _ := impl.Decode(text)
		if liesIn(first.Data, text) || liesIn(first.Data, second.Data) || liesIn(first.Data, data) {
			t.Errorf("the Data of Decode(%q) shares memory", text)
		}
		for at, e := range first.Entries {
			if liesIn(e.Data, text) || liesIn(e.Data, second.Entries[at].Data) || liesIn(e.Data, asked) || liesIn(e.Data, conf) {
				t.Errorf("an entry of Decode(%q) shares memory", text)
			}
			for place, other := range first.Entries {
				if place != at && liesIn(e.Data, other.Data) {
					t.Errorf("two entries of Decode(%q) share memory", text)
				}
			}
		}
	}
	for kind := 1; kind <= 6; kind++ {
		first, _ := impl.Encode(bareMessage(kind))
		second, _ := impl.Encode(bareMessage(kind))
		if liesIn(first, second) {
			t.Errorf("two answers of Encode of the Kind %d share memory", kind)
		}
	}
}

// Whatever comes, all functions answer; and the same once more.
func TestMessagesAnswerAtAll(t *testing.T) {
	next := draws(152)
	numbers := []int{math.MinInt, -1, 0, 1, 2, 3, 4, 5, 6, 7, 100000, 100001, 1000000, 1000001, math.MaxInt}
	number := func() int { return numbers[next(len(numbers))] }
	for range 20000 {
		m := impl.Message{Kind: number(), From: number(), To: number(), Term: number(), Index: number(), LogTerm: number(), Commit: number(), Ok: next(2) == 0, Last: next(2) == 0, Data: longText(next(80))}
		for range next(6) {
			m.Entries = append(m.Entries, impl.Entry{Term: number(), Kind: number(), Data: longText(next(130))})
			m.Conf = append(m.Conf, number())
		}
		text := make([]byte, next(40))
		for at := range text {
			text[at] = byte(next([]int{4, 7, 256}[next(3)]))
		}
		answers := func() string {
			told, ok := impl.Encode(m)
			read, is := impl.Decode(string(text))
			return fmt.Sprintf("%v %q %v %v %v", impl.MessageOk(m), told, ok, read, is)
		}
		if first, second := answers(), answers(); first != second {
			t.Fatalf("two answers to the same: %s and %s", first, second)
		}
		holdMessage(t, m, rightMessageByHand(m))
		holdMessageText(t, string(text))
	}
}

// Long lists and texts: each is refused in no long time.
func TestLongMessages(t *testing.T) {
	const size = 200000
	for kind := range 8 {
		m := bareMessage(kind)
		for _, change := range []func(m *impl.Message){
			func(m *impl.Message) { m.Entries = make([]impl.Entry, size) }, func(m *impl.Message) { m.Entries = slices.Repeat([]impl.Entry{none(0)}, size) }, func(m *impl.Message) { m.Conf = make([]int, size) }, func(m *impl.Message) { m.Data = longText(5 * size) }, func(m *impl.Message) { m.Entries = []impl.Entry{command(0, longText(5*size))} },
		} {
			long := m
			change(&long)
			holdEncode(t, long, false)
		}
	}
	for _, text := range []string{longText(5 * size), strings.Repeat("\x00", 5*size), strings.Repeat("\x01", 5*size), strings.Repeat("\x02", 5*size), strings.Repeat("\x80", 5*size), strings.Repeat("\xff", 5*size), messageByHand(bareMessage(1)) + longText(size)} {
		refuseMessage(t, text)
	}
}
