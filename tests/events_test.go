package tests

import (
	"fmt"
	"math"
	"slices"
	"strings"
	"testing"

	"loop.example/g00127/impl"
)

// baseEvents are a right event of each of the five Kinds, by its Kind; no Id of theirs is among the edges.
func baseEvents() map[int]impl.Event {
	return map[int]impl.Event{
		1: {Id: 31, Kind: impl.KindCreate, Sender: 1},
		2: {Id: 32, Kind: impl.KindMember, Sender: 1, User: 2, Member: impl.Invited, Prev: []int{41}, Depth: 1},
		3: {Id: 33, Kind: impl.KindPower, Sender: 2, Levels: []int{100, 50, 1, 99, 0}, Prev: []int{41, 42}, Depth: 2},
		4: {Id: 34, Kind: impl.KindName, Sender: 3, Text: "a room", Prev: []int{42}, Depth: 3},
		5: {Id: 35, Kind: impl.KindSay, Sender: 5, Text: "hi", Prev: []int{41, 42, 43}, Depth: 4},
	}
}

// eventFields are the fields of an event's text, each by itself, also of an event that is not right.
func eventFields(e impl.Event) []string {
	fields := []string{numberByHand(e.Id), confByHand([]int{e.Kind}), confByHand([]int{e.Sender}), confByHand([]int{e.User}), confByHand([]int{e.Member})}
	fields = append(fields, numberByHand(len(e.Levels)), confByHand(e.Levels), numberByHand(len(e.Text)), e.Text, numberByHand(len(e.Prev)))
	for _, id := range e.Prev {
		fields = append(fields, numberByHand(id))
	}
	return append(fields, numberByHand(e.Depth))
}

func eventByHand(e impl.Event) string { return strings.Join(eventFields(e), "") }

// writable: the numbers fit into their fields, so that the text by hand is of this event and of no other.
func writable(e impl.Event) bool {
	for _, n := range append([]int{e.Kind, e.Sender, e.User, e.Member}, e.Levels...) {
		if n < 0 || n > 255 {
			return false
		}
	}
	return e.Id >= 0 && e.Depth >= 0 && !slices.ContainsFunc(e.Prev, func(id int) bool { return id < 0 })
}

// rightEventByHand asks each Kind for all that it may have.
func rightEventByHand(e impl.Event) bool {
	isIndex := func(n int) bool { return n > 0 && n < 1000001 }
	noMember := e.User == 0 && e.Member == 0
	noLevels, noText := len(e.Levels) == 0, len(e.Text) == 0
	var fits bool
	switch e.Kind {
	case 1:
		fits = noMember && noLevels && noText && len(e.Prev) == 0
	case 2:
		fits = slices.Contains([]int{1, 2, 3, 4, 5}, e.User) && slices.Contains([]int{0, 1, 2, 3}, e.Member) && noLevels && noText
	case 3:
		fits = noMember && noText && len(e.Levels) == 5 && slices.Min(e.Levels) > -1 && slices.Max(e.Levels) < 101
	case 4, 5:
		fits = noMember && noLevels && len(e.Text) < 25
	}
	if e.Kind != 1 {
		sorted := slices.Compact(slices.Sorted(slices.Values(e.Prev)))
		fits = fits && len(e.Prev) > 0 && len(e.Prev) < 4 && slices.Equal(sorted, e.Prev) && !slices.Contains(e.Prev, e.Id)
	}
	for _, id := range e.Prev {
		fits = fits && isIndex(id)
	}
	return fits && isIndex(e.Id) && slices.Contains([]int{1, 2, 3, 4, 5}, e.Sender) && (e.Depth == 0 || isIndex(e.Depth))
}

// eventByTrial takes the fields as they come, with longer forms of numbers and with what is left behind them, and asks for the text of that.
func eventByTrial(text string) (impl.Event, bool) {
	rest, short := text, false
	take := func(size int) string {
		short = short || size > len(rest)
		size = min(size, len(rest))
		taken := rest[:size]
		rest = rest[size:]
		return taken
	}
	number := func() (n int) {
		size := 1 + strings.IndexFunc(rest, func(r rune) bool { return r < 128 })
		bytes := take(max(size, 1))
		for at := min(len(bytes), 8) - 1; at >= 0; at-- {
			n = n*128 + int(bytes[at])%128
		}
		return n
	}
	oneByte := func() int {
		b := take(1)
		return int(append([]byte(b), 0)[0])
	}
	e := impl.Event{Id: number(), Kind: oneByte(), Sender: oneByte(), User: oneByte(), Member: oneByte()}
	for _, b := range []byte(take(number())) {
		e.Levels = append(e.Levels, int(b))
	}
	e.Text = take(number())
	for range min(number(), 4) {
		e.Prev = append(e.Prev, number())
	}
	e.Depth = number()
	if short || !rightEventByHand(e) || eventByHand(e) != text {
		return impl.Event{}, false
	}
	return e, true
}

func sameEvent(a, b impl.Event) bool {
	return a.Id == b.Id && a.Kind == b.Kind && a.Sender == b.Sender && a.User == b.User && a.Member == b.Member &&
		slices.Equal(a.Levels, b.Levels) && a.Text == b.Text && slices.Equal(a.Prev, b.Prev) && a.Depth == b.Depth
}

func copyEvent(e impl.Event) impl.Event {
	e.Levels, e.Prev = slices.Clone(e.Levels), slices.Clone(e.Prev)
	return e
}

func shownEvent(e impl.Event) string {
	return fmt.Sprintf("{Id %d, Kind %d, Sender %d, User %d, Member %d, %d Levels %.40s, Text %.60q of %d bytes, %d Prev %.40s, Depth %d}",
		e.Id, e.Kind, e.Sender, e.User, e.Member, len(e.Levels), fmt.Sprint(e.Levels), e.Text, len(e.Text), len(e.Prev), fmt.Sprint(e.Prev), e.Depth)
}

// Edges of numbers: those of one byte, of two and of three, the limits, and what is past them.
var (
	edgeDepths  = append([]int{0}, edgeIndexes...)
	wrongDepths = slices.DeleteFunc(slices.Clone(wrongIndex), func(n int) bool { return n == 0 })
	edgeUsers   = []int{1, 2, 3, 4, 5}
	wrongUsers  = []int{0, 6, 7, -1, -2, 127, 128, 255, 256, 257, 258, 261, -251, -255, math.MinInt, math.MaxInt}
	wrongLevels = []int{101, -1, 102, -2, 127, 128, 255, 256, 257, 356, -156, -256, math.MinInt, math.MaxInt}
)

// wordTexts are Texts of a name or of what is said: none, few bytes, those that look like something else, and the most there may be.
func wordTexts() []string {
	return []string{
		"", "x", " ", "\x00", "\x01", "\x80", "\xff", "\x80\x00", "\x01\x02\x01", "ümlaut", "two words", "line\n",
		everyByte()[:24], everyByte()[116:140], longText(impl.MaxWord - 1), longText(impl.MaxWord), strings.Repeat("\x00", impl.MaxWord), strings.Repeat("\xff", impl.MaxWord),
	}
}

func rightPrevs() [][]int {
	return [][]int{
		{1}, {2}, {41}, {127}, {128}, {16383}, {16384}, {999999}, {1000000},
		{1, 2}, {1, 1000000}, {127, 128}, {999999, 1000000},
		{1, 2, 3}, {41, 42, 43}, {1, 128, 16384}, {127, 16383, 1000000}, {999998, 999999, 1000000},
	}
}

func wrongPrevs() [][]int {
	return [][]int{
		{1, 2, 3, 4}, {41, 42, 43, 44}, {1, 2, 3, 4, 5}, {1, 1, 2, 3}, {1, 2, 3, 3}, make([]int, 4), make([]int, 1000),
		{2, 1}, {1000000, 1}, {1, 3, 2}, {2, 1, 3}, {3, 2, 1}, {2, 3, 1}, {128, 127},
		{1, 1}, {1000000, 1000000}, {1, 1, 2}, {1, 2, 2}, {2, 2, 2}, {1, 2, 1},
		{0}, {0, 1}, {0, 1, 2}, {0, 0}, {1, 0}, {1, 2, 0}, {-1}, {-1, 1}, {-2, -1, 1}, {math.MinInt}, {math.MinInt, 1}, {-1000000},
		{1000001}, {1, 1000001}, {1, 2, 1000001}, {1000000, 1000001}, {1000001, 1000002}, {1000000000}, {1000000001}, {math.MaxInt}, {1, math.MaxInt}, {math.MaxInt, math.MinInt},
	}
}

func rightEvents() (list []impl.Event) {
	for kind := impl.KindCreate; kind <= impl.KindSay; kind++ {
		base := baseEvents()[kind]
		for _, id := range edgeIndexes {
			for _, depth := range edgeDepths {
				e := base
				e.Id, e.Depth = id, depth
				list = append(list, e)
			}
		}
		for _, sender := range edgeUsers {
			e := base
			e.Sender = sender
			list = append(list, e)
		}
		for _, prev := range rightPrevs() {
			if e := base; kind != impl.KindCreate {
				e.Prev = prev
				list = append(list, e)
			}
		}
	}
	for _, user := range edgeUsers {
		for member := impl.Left; member <= impl.Banned; member++ {
			e := baseEvents()[2]
			e.User, e.Member = user, member
			list = append(list, e)
		}
	}
	for _, levels := range [][]int{{0, 0, 0, 0, 0}, {100, 100, 100, 100, 100}, {100, 0, 0, 0, 0}, {0, 0, 0, 0, 100}, {1, 2, 3, 4, 5}, {99, 50, 49, 51, 0}, {7, 7, 0, 9, 9}} {
		e := baseEvents()[3]
		e.Levels = levels
		list = append(list, e)
	}
	for _, text := range wordTexts() {
		name, say := baseEvents()[4], baseEvents()[5]
		name.Text, say.Text = text, text
		list = append(list, name, say)
	}
	return list
}

func wantEvent(t *testing.T, text string, want impl.Event) {
	t.Helper()
	if e, ok := impl.ReadEvent(text); !ok || !sameEvent(e, want) {
		t.Errorf("ReadEvent(%.80q) = %s, %v; want %s, true", text, shownEvent(e), ok, shownEvent(want))
	}
}

func refuseEvent(t *testing.T, text string) {
	t.Helper()
	if e, ok := impl.ReadEvent(text); ok || !sameEvent(e, impl.Event{}) {
		t.Errorf("ReadEvent(%.80q) of %d bytes = %s, %v; want nothing", text, len(text), shownEvent(e), ok)
	}
}

// holdEventText holds ReadEvent against what trial finds in the text, and says whether that is an event.
func holdEventText(t *testing.T, text string) bool {
	t.Helper()
	e, ok := eventByTrial(text)
	if ok {
		wantEvent(t, text, e)
	} else {
		refuseEvent(t, text)
	}
	return ok
}

// holdEvent holds an event to be right or wrong in all that is told of it: EventOk, its text, and what is read from the text by hand.
func holdEvent(t *testing.T, e impl.Event, right bool) {
	t.Helper()
	if rightEventByHand(e) != right {
		t.Fatalf("the test is wrong: of %s it says %v", shownEvent(e), right)
	}
	if impl.EventOk(e) != right {
		t.Errorf("EventOk(%s) is %v", shownEvent(e), !right)
	}
	text, ok := impl.EventText(e)
	if ok != right || right && text != eventByHand(e) || !right && text != "" {
		t.Errorf("EventText(%s) = %.80q, %v", shownEvent(e), text, ok)
	}
	switch {
	case right:
		wantEvent(t, eventByHand(e), e)
	case writable(e):
		refuseEvent(t, eventByHand(e))
	}
}

// holdEach holds what a change makes of the right event of each Kind, of which it says whether it is right still.
func holdEach(t *testing.T, change func(e *impl.Event), right func(kind int) bool) {
	t.Helper()
	for kind, e := range baseEvents() {
		change(&e)
		holdEvent(t, e, right(kind))
	}
}

func always(int) bool { return true }
func never(int) bool  { return false }
func only(kinds ...int) func(int) bool {
	return func(kind int) bool { return slices.Contains(kinds, kind) }
}

func TestEventConstants(t *testing.T) {
	got := []int{
		impl.MaxUsers, impl.MaxWord, impl.MaxPrev,
		impl.KindCreate, impl.KindMember, impl.KindPower, impl.KindName, impl.KindSay,
		impl.Left, impl.Invited, impl.Joined, impl.Banned,
	}
	if want := []int{5, 24, 3, 1, 2, 3, 4, 5, 0, 1, 2, 3}; !slices.Equal(got, want) {
		t.Errorf("the constants are %v, not %v", got, want)
	}
}

func TestEventTextBytes(t *testing.T) {
	for _, c := range []struct {
		e    impl.Event
		want string
	}{
		{impl.Event{Id: 3, Kind: impl.KindSay, Sender: 1, Text: "hi", Prev: []int{2}, Depth: 1}, "\x03\x05\x01\x00\x00\x00\x02hi\x01\x02\x01"},
		{impl.Event{Id: 1, Kind: impl.KindCreate, Sender: 1}, "\x01\x01\x01\x00\x00\x00\x00\x00\x00"},
		{impl.Event{Id: 1, Kind: impl.KindCreate, Sender: 5, Depth: 300}, "\x01\x01\x05\x00\x00\x00\x00\x00\xac\x02"},
		{impl.Event{Id: 128, Kind: impl.KindMember, Sender: 1, User: 5, Member: impl.Banned, Prev: []int{1, 300}, Depth: 2}, "\x80\x01\x02\x01\x05\x03\x00\x00\x02\x01\xac\x02\x02"},
		{impl.Event{Id: 9, Kind: impl.KindMember, Sender: 4, User: 4, Member: impl.Left, Prev: []int{8}}, "\x09\x02\x04\x04\x00\x00\x00\x01\x08\x00"},
		{impl.Event{Id: 4, Kind: impl.KindPower, Sender: 2, Levels: []int{100, 50, 0, 1, 99}, Prev: []int{3}, Depth: 127}, "\x04\x03\x02\x00\x00\x05\x64\x32\x00\x01\x63\x00\x01\x03\x7f"},
		{impl.Event{Id: impl.MaxIndex, Kind: impl.KindName, Sender: 3, Text: "", Prev: []int{1, 2, 999999}, Depth: impl.MaxIndex}, "\xc0\x84\x3d\x04\x03\x00\x00\x00\x00\x03\x01\x02\xbf\x84\x3d\xc0\x84\x3d"},
	} {
		if s, ok := impl.EventText(c.e); !ok || s != c.want {
			t.Errorf("EventText(%s) = %q, %v; want %q, true", shownEvent(c.e), s, ok, c.want)
		}
		wantEvent(t, c.want, c.e)
	}
}

// Promise 9: a right event of each Kind comes back from its text, every field.
func TestEventsComeBack(t *testing.T) {
	kinds := map[int]int{}
	for _, e := range rightEvents() {
		text, ok := impl.EventText(e)
		if back, read := impl.ReadEvent(text); !ok || !read || !sameEvent(back, e) {
			t.Errorf("%s comes back from %q as %s, %v, %v", shownEvent(e), text, shownEvent(back), ok, read)
		}
		holdEvent(t, e, true)
		kinds[e.Kind]++
	}
	if len(kinds) != 5 {
		t.Errorf("the right events are of the Kinds %v", kinds)
	}
}

func TestEventIds(t *testing.T) {
	for _, id := range edgeIndexes {
		holdEach(t, func(e *impl.Event) { e.Id = id }, always)
	}
	for _, id := range wrongIndex {
		holdEach(t, func(e *impl.Event) { e.Id = id }, never)
	}
}

func TestEventDepths(t *testing.T) {
	for _, depth := range edgeDepths {
		holdEach(t, func(e *impl.Event) { e.Depth = depth }, always)
	}
	for _, depth := range wrongDepths {
		holdEach(t, func(e *impl.Event) { e.Depth = depth }, never)
	}
}

func TestEventSenders(t *testing.T) {
	for _, sender := range edgeUsers {
		holdEach(t, func(e *impl.Event) { e.Sender = sender }, always)
	}
	for _, sender := range wrongUsers {
		holdEach(t, func(e *impl.Event) { e.Sender = sender }, never)
	}
}

func TestEventUsers(t *testing.T) {
	for _, user := range edgeUsers {
		holdEach(t, func(e *impl.Event) { e.User = user }, only(impl.KindMember))
	}
	for _, user := range wrongUsers {
		holdEach(t, func(e *impl.Event) { e.User = user }, func(kind int) bool { return user == 0 && kind != impl.KindMember })
	}
	// One who is told of may be the Sender, or another one.
	for _, sender := range edgeUsers {
		for _, user := range edgeUsers {
			holdEach(t, func(e *impl.Event) { e.Sender, e.User = sender, user }, only(impl.KindMember))
		}
	}
}

func TestEventMembers(t *testing.T) {
	holdEach(t, func(e *impl.Event) { e.Member = impl.Left }, always)
	for _, member := range []int{impl.Invited, impl.Joined, impl.Banned} {
		holdEach(t, func(e *impl.Event) { e.Member = member }, only(impl.KindMember))
	}
	for _, member := range []int{-1, -2, 4, 5, 127, 128, 255, 256, 257, 259, -253, -256, math.MinInt, math.MaxInt} {
		holdEach(t, func(e *impl.Event) { e.Member = member }, never)
	}
	// Both of another Kind.
	holdEach(t, func(e *impl.Event) { e.User, e.Member = 1, impl.Joined }, only(impl.KindMember))
	holdEach(t, func(e *impl.Event) { e.User, e.Member = 0, impl.Joined }, never)
}

// The right event of each Kind with every Kind of a byte, and some beyond: only a name and what is said have the same fields.
func TestEventKinds(t *testing.T) {
	kinds := []int{-1, -2, -251, -255, 256, 257, 258, 259, 260, 261, math.MinInt, math.MaxInt}
	for kind := range 256 {
		kinds = append(kinds, kind)
	}
	for _, kind := range kinds {
		fits := only(kind)
		if kind < 1 || kind > 5 {
			fits = never
		} else if kind >= 4 {
			fits = only(4, 5)
		}
		holdEach(t, func(e *impl.Event) { e.Kind = kind }, fits)
	}
}

// Every Kind with every choice of the fields that not each Kind has.
func TestEventFieldsByKind(t *testing.T) {
	right := 0
	for kind := -1; kind <= 7; kind++ {
		for choice := range 3 * 3 * 4 * 4 * 3 {
			e := impl.Event{Id: 9, Kind: kind, Sender: 1}
			e.User = []int{0, 1, 6}[choice%3]
			e.Member = []int{0, 3, 4}[choice/3%3]
			e.Levels = [][]int{nil, {}, {0, 0, 0, 0, 0}, {0, 0, 0, 0}}[choice/9%4]
			e.Text = []string{"", "\x00", longText(24), longText(25)}[choice/36%4]
			e.Prev = [][]int{nil, {8}, {8, 9}}[choice/144]
			want := rightEventByHand(e)
			holdEvent(t, e, want)
			if want {
				right++
			}
		}
	}
	// One of KindCreate, two of KindMember and one of KindPower, three each of KindName and KindSay; of none or an empty list of Levels, but of KindPower.
	if right != 2*1+2*2+1+2*3+2*3 {
		t.Errorf("%d of the choices are right", right)
	}
}

func TestEventLevels(t *testing.T) {
	for size := range 12 {
		for _, level := range []int{0, 1, 100} {
			right := only(impl.KindPower)
			switch size {
			case 0:
				right = only(1, 2, 4, 5)
			case 5:
			default:
				right = never
			}
			holdEach(t, func(e *impl.Event) { e.Levels = slices.Repeat([]int{level}, size) }, right)
		}
	}
	for place := range 5 {
		for level := range 101 {
			holdEach(t, func(e *impl.Event) {
				e.Levels = []int{100, 0, 50, 0, 100}
				e.Levels[place] = level
			}, only(impl.KindPower))
		}
		for _, level := range wrongLevels {
			holdEach(t, func(e *impl.Event) {
				e.Levels = []int{100, 0, 50, 0, 100}
				e.Levels[place] = level
			}, never)
		}
	}
	holdEach(t, func(e *impl.Event) { e.Levels = make([]int, 5000) }, never)
}

func TestEventTexts(t *testing.T) {
	for size := range 2*impl.MaxWord + 1 {
		for _, text := range []string{longText(size), strings.Repeat("\x00", size), strings.Repeat("\xff", size), strings.Repeat("x", size)} {
			right := only(impl.KindName, impl.KindSay)
			if size == 0 {
				right = always
			} else if size > 24 {
				right = never
			}
			holdEach(t, func(e *impl.Event) { e.Text = text }, right)
		}
	}
	// Bytes are counted, not signs.
	holdEach(t, func(e *impl.Event) { e.Text = strings.Repeat("ü", 12) }, only(4, 5))
	holdEach(t, func(e *impl.Event) { e.Text = strings.Repeat("ü", 13) }, never)
	for _, size := range []int{127, 128, 150, 255, 256, 280, impl.MaxText, impl.MaxText + 1} {
		holdEach(t, func(e *impl.Event) { e.Text = longText(size) }, never)
	}
}

func TestEventPrevs(t *testing.T) {
	holdEach(t, func(e *impl.Event) { e.Prev = nil }, only(impl.KindCreate))
	holdEach(t, func(e *impl.Event) { e.Prev = []int{} }, only(impl.KindCreate))
	for _, prev := range rightPrevs() {
		holdEach(t, func(e *impl.Event) { e.Prev = prev }, only(2, 3, 4, 5))
	}
	for _, prev := range wrongPrevs() {
		holdEach(t, func(e *impl.Event) { e.Prev = prev }, never)
	}
	for _, id := range edgeIndexes {
		holdEach(t, func(e *impl.Event) { e.Prev = []int{id} }, only(2, 3, 4, 5))
	}
	for _, id := range wrongIndex {
		holdEach(t, func(e *impl.Event) { e.Prev = []int{id} }, never)
	}
}

// An event never names itself; it may name those whose Ids are less, and greater ones.
func TestEventsDoNotNameThemselves(t *testing.T) {
	for _, prev := range rightPrevs() {
		for _, id := range prev {
			holdEach(t, func(e *impl.Event) { e.Id, e.Prev = id, prev }, never)
			for _, near := range []int{id - 1, id + 1} {
				if near >= 1 && near <= impl.MaxIndex && !slices.Contains(prev, near) {
					holdEach(t, func(e *impl.Event) { e.Id, e.Prev = near, prev }, only(2, 3, 4, 5))
				}
			}
		}
	}
}

// Every list of up to four about the least Ids, of an event that stands among them.
func TestEventPrevsOfAllLists(t *testing.T) {
	var try func(prev []int)
	try = func(prev []int) {
		for _, id := range []int{2, 9} {
			e := impl.Event{Id: id, Kind: impl.KindSay, Sender: 1, Prev: prev}
			holdEvent(t, e, rightEventByHand(e))
		}
		if len(prev) < 4 {
			for id := -1; id <= 5; id++ {
				try(append(slices.Clone(prev), id))
			}
		}
	}
	try(nil)
}

func TestZeroEventIsWrong(t *testing.T) {
	holdEvent(t, impl.Event{}, false)
	for kind := range 7 {
		holdEvent(t, impl.Event{Kind: kind}, false)
		holdEvent(t, impl.Event{Id: 1, Kind: kind}, false)
		holdEvent(t, impl.Event{Id: 1, Kind: kind, Sender: 1}, kind == impl.KindCreate)
	}
}

func TestReadEventRefuses(t *testing.T) {
	refuseEvent(t, "")
	for _, text := range []string{"\x00", "\x01", " ", "hi", everyByte(), longText(impl.MaxText), longText(impl.MaxText + 1), strings.Repeat("\x00", 5000), strings.Repeat("\x80", 5000), strings.Repeat("\xff", 5000), strings.Repeat("\x01", 5000)} {
		refuseEvent(t, text)
	}
	for size := range 40 {
		refuseEvent(t, strings.Repeat("\x00", size))
		refuseEvent(t, strings.Repeat("\x80", size))
		refuseEvent(t, strings.Repeat("\xff", size))
	}
	// Six Levels are told of; read from its beginning on once more, the text would end as one of a name does.
	for _, end := range []string{"\x01\x01\x00", "\x01\x02\x01", "\x02\x01\x02\x03"} {
		refuseEvent(t, "\x05\x04\x01\x00\x00\x06"+end)
	}
}

// Each field ends where it tells, so that no beginning of a text is one, and nothing stands behind it.
func TestReadEventOfCutTexts(t *testing.T) {
	for _, e := range rightEvents() {
		text := eventByHand(e)
		for cut := range len(text) {
			refuseEvent(t, text[:cut])
			if cut > 0 {
				holdEventText(t, text[cut:])
				holdEventText(t, text[:cut-1]+text[cut:])
			}
		}
	}
}

func TestReadEventRefusesBytesBehind(t *testing.T) {
	for _, e := range rightEvents() {
		text := eventByHand(e)
		for _, behind := range []string{"\x00", "\x01", "x", " ", "\x80", "\xff", "\x80\x00", text} {
			refuseEvent(t, text+behind)
		}
	}
	for _, e := range baseEvents() {
		for b := range 256 {
			refuseEvent(t, eventByHand(e)+string([]byte{byte(b)}))
			holdEventText(t, string([]byte{byte(b)})+eventByHand(e))
		}
	}
}

// Each byte turned into each other one: what is read is none, or the event whose text that is.
func TestReadEventOfTurnedBytes(t *testing.T) {
	events := slices.Collect(func(yield func(impl.Event) bool) {
		for _, e := range baseEvents() {
			low, high := e, e
			low.Id, low.Depth = 1, 0
			high.Id, high.Depth = impl.MaxIndex, impl.MaxIndex
			if e.Kind != impl.KindCreate {
				high.Prev = []int{127, 128, 999999}
			}
			if !yield(e) || !yield(low) || !yield(high) {
				return
			}
		}
	})
	others, nothing := 0, 0
	for _, e := range events {
		text := eventByHand(e)
		for at := range len(text) {
			for b := range 256 {
				turned := []byte(text)
				turned[at] = byte(b)
				if string(turned) == text {
					continue
				}
				if got, ok := impl.ReadEvent(string(turned)); ok && sameEvent(got, e) {
					t.Errorf("ReadEvent of %q, turned at %d to %d, is the same event", text, at, b)
				}
				if holdEventText(t, string(turned)) {
					others++
				} else {
					nothing++
				}
			}
		}
	}
	if others < 1000 || nothing < 10000 {
		t.Errorf("of the turned texts %d are those of other events, and %d of none", others, nothing)
	}
}

// Each number of a text in a longer form: of Id, of how many Levels, bytes and Prev there are, of each Prev and of Depth.
func TestReadEventRefusesLongerForms(t *testing.T) {
	for _, e := range rightEvents() {
		fields := eventFields(e)
		places := map[int]int{0: e.Id, 5: len(e.Levels), 7: len(e.Text), 9: len(e.Prev), len(fields) - 1: e.Depth}
		for at, id := range e.Prev {
			places[10+at] = id
		}
		for place, n := range places {
			for _, longer := range longerForms(n) {
				other := slices.Clone(fields)
				other[place] = longer
				refuseEvent(t, strings.Join(other, ""))
			}
			for _, endless := range []string{strings.Repeat("\x80", 40), strings.Repeat("\xff", 300)} {
				other := slices.Clone(fields)
				other[place] = endless
				refuseEvent(t, strings.Join(other, ""))
				refuseEvent(t, strings.Join(other[:place+1], ""))
			}
		}
	}
	// A byte is no number that goes on.
	for place := 1; place <= 4; place++ {
		for _, e := range baseEvents() {
			fields := eventFields(e)
			fields[place] = string([]byte{fields[place][0] | 128, 0})
			refuseEvent(t, strings.Join(fields, ""))
		}
	}
}

// A text may tell of more Levels, bytes or Prev than there are, or of fewer.
func TestReadEventOfWrongCounts(t *testing.T) {
	counts := []int{0, 1, 2, 3, 4, 5, 6, 7, 23, 24, 25, 26, 127, 128, 255, 256, 257, 19999, 20000, 20001, 1000000, 999999999, 1000000000, 1000000001, math.MaxInt}
	for _, e := range baseEvents() {
		fields := eventFields(e)
		for _, place := range []int{5, 7, 9} {
			for _, count := range counts {
				if other := numberByHand(count); other != fields[place] {
					told := slices.Clone(fields)
					told[place] = other
					holdEventText(t, strings.Join(told, ""))
					refuseEvent(t, strings.Join(told[:place+1], ""))
					holdEventText(t, strings.Join(told, "")+strings.Repeat("\x01", 100))
				}
			}
		}
	}
	// As many as are told of are there, but a right event has none so many.
	for _, e := range baseEvents() {
		for _, size := range []int{6, 25, 128, impl.MaxText, impl.MaxText + 1} {
			more, longer, deeper := copyEvent(e), e, copyEvent(e)
			more.Levels = make([]int, size)
			longer.Text = longText(max(size, 25))
			deeper.Prev = make([]int, size)
			for at := range deeper.Prev {
				deeper.Prev[at] = 100 + at
			}
			for _, wrong := range []impl.Event{more, longer, deeper} {
				refuseEvent(t, eventByHand(wrong))
			}
		}
	}
}

// drawnEvent is right, or about one that is.
func drawnEvent(next func(int) int) impl.Event {
	e := impl.Event{Id: 1 + next(impl.MaxIndex), Kind: 1 + next(5), Sender: 1 + next(5), Depth: next(impl.MaxIndex + 1)}
	switch e.Kind {
	case impl.KindMember:
		e.User, e.Member = 1+next(5), next(4)
	case impl.KindPower:
		e.Levels = []int{next(101), next(101), next(101), next(101), next(101)}
	case impl.KindName, impl.KindSay:
		from := next(256)
		e.Text = longText(1000)[from : from+next(impl.MaxWord+1)]
	}
	for e.Kind != impl.KindCreate && len(e.Prev) <= next(3) {
		e.Prev = append(e.Prev, 1+next([]int{6, 130, impl.MaxIndex}[next(3)]))
		slices.Sort(e.Prev)
	}
	for next(4) == 0 {
		switch next(8) {
		case 0:
			e.Kind = next(8)
		case 1:
			e.User, e.Member = next(7), next(6)
		case 2:
			e.Levels = append(e.Levels, next(130))
		case 3:
			e.Text += "more"
		case 4:
			e.Prev = append(e.Prev, next(12))
		case 5:
			e.Sender = next(8) - 1
		case 6:
			e.Id = []int{0, 1, 2, 3, impl.MaxIndex, impl.MaxIndex + 1, -1}[next(7)]
		case 7:
			e.Depth = []int{-1, 0, impl.MaxIndex, impl.MaxIndex + 1}[next(4)]
		}
	}
	return e
}

// Promise 9 of events that are drawn, right ones and others.
func TestDrawnEvents(t *testing.T) {
	next := draws(9)
	right := map[bool]int{}
	for range 40000 {
		e := drawnEvent(next)
		want := rightEventByHand(e)
		holdEvent(t, e, want)
		right[want]++
	}
	if right[true] < 10000 || right[false] < 3000 {
		t.Errorf("of the events drawn %d are right, %d are not", right[true], right[false])
	}
}

// Texts drawn about those of events, held against what trial finds in them.
func TestDrawnEventTexts(t *testing.T) {
	next := draws(99)
	events := rightEvents()
	found := map[bool]int{}
	for range 60000 {
		text := []byte(eventByHand(events[next(len(events))]))
		for range next(3) {
			at := next(len(text))
			switch next(4) {
			case 0:
				text[at] ^= byte(1 << next(8))
			case 1:
				text[at] = byte(next(6))
			case 2:
				text = slices.Insert(text, at, byte(next(256)))
			case 3:
				text = slices.Delete(text, at, at+1)
			}
		}
		found[holdEventText(t, string(text))]++
	}
	if found[true] < 20000 || found[false] < 10000 {
		t.Errorf("of the texts drawn %d are those of events, %d are not", found[true], found[false])
	}
}

func TestKeyOf(t *testing.T) {
	want := map[int]int{impl.KindCreate: 1, impl.KindMember: 12, impl.KindPower: 2, impl.KindName: 3, impl.KindSay: 0}
	for kind, e := range baseEvents() {
		if key := impl.KeyOf(e); key != want[kind] {
			t.Errorf("KeyOf(%s) = %d; want %d", shownEvent(e), key, want[kind])
		}
	}
	for _, e := range rightEvents() {
		key := want[e.Kind]
		if e.Kind == impl.KindMember {
			key = []int{11, 12, 13, 14, 15}[e.User-1]
		}
		if got := impl.KeyOf(e); got != key {
			t.Errorf("KeyOf(%s) = %d; want %d", shownEvent(e), got, key)
		}
	}
}

// Kind and User tell the key, and nothing else of an event does, be it right or not.
func TestKeyOfKindAndUserAlone(t *testing.T) {
	for user := -3; user <= 9; user++ {
		for kind, want := range []int{0, 1, 10 + user, 2, 3, 0, 0} {
			for _, e := range []impl.Event{
				{Kind: kind, User: user},
				{Id: 7, Kind: kind, Sender: 3, User: user, Member: impl.Banned, Levels: []int{1, 2, 3, 4, 5}, Text: "x", Prev: []int{6}, Depth: 2},
				{Id: -1, Kind: kind, Sender: 99, User: user, Member: -7, Levels: []int{101}, Text: longText(99), Prev: []int{0, 0, 0, 0}, Depth: -1},
			} {
				if key := impl.KeyOf(e); key != want {
					t.Errorf("KeyOf(%s) = %d; want %d", shownEvent(e), key, want)
				}
			}
		}
	}
}

// A Kind that is none of the five tells nothing of a state.
func TestKeyOfOtherKinds(t *testing.T) {
	for _, kind := range []int{0, 6, 7, 8, 10, 11, -1, -2, -3, -5, 255, 256, 257, 258, 259, 260, 261, math.MinInt, math.MaxInt} {
		for _, user := range []int{0, 1, 5, 6, -1, math.MaxInt, math.MinInt} {
			if key := impl.KeyOf(impl.Event{Id: 1, Kind: kind, Sender: 1, User: user}); key != 0 {
				t.Errorf("KeyOf of the Kind %d with the User %d = %d", kind, user, key)
			}
		}
	}
	if key := impl.KeyOf(impl.Event{}); key != 0 {
		t.Errorf("KeyOf of the zero event = %d", key)
	}
}

// Arguments with spare room behind them: nothing is written into them or there.
func TestEventArgumentsStay(t *testing.T) {
	levels, prev := []int{100, 50, 0, 1, 2, 77, 78, 79}, []int{41, 42, 88, 89, 90}
	levelsBefore, prevBefore := slices.Clone(levels), slices.Clone(prev)
	for kind := range 7 {
		for count := range 3 {
			e := impl.Event{Id: 7, Kind: kind, Sender: 1, Levels: levels[:5], Prev: prev[:count]}
			for _, e := range []impl.Event{e, {Id: 7, Kind: kind, Sender: 1, Levels: levels[:0], Prev: prev[:count]}} {
				impl.EventOk(e)
				impl.EventText(e)
				impl.KeyOf(e)
				if !slices.Equal(levels, levelsBefore) || !slices.Equal(prev, prevBefore) {
					t.Fatalf("written into an argument: %v, %v", levels, prev)
				}
			}
		}
	}
}

func TestEventsAreNew(t *testing.T) {
	for _, e := range rightEvents() {
		e = copyEvent(e)
		e.Text = strings.Clone(e.Text)
		text, ok := impl.EventText(e)
		if !ok || liesIn(text, e.Text) {
			t.Errorf("EventText(%s) answers with the memory of its argument", shownEvent(e))
		}
		first, ok := impl.ReadEvent(text)
		second, again := impl.ReadEvent(text)
		if !ok || !again || liesIn(first.Text, text) || liesIn(first.Text, second.Text) {
			t.Errorf("ReadEvent(%q) = %s, %v, or shares memory", text, shownEvent(first), ok)
		}
		// What is done with one list is seen in no other one.
		clear(first.Levels[:cap(first.Levels)])
		if !slices.Equal(first.Prev, e.Prev) || !sameEvent(second, e) {
			t.Errorf("lists of ReadEvent(%q) share memory", text)
		}
		clear(first.Prev[:cap(first.Prev)])
		wantEvent(t, text, e)
		if !sameEvent(second, e) {
			t.Errorf("two answers of ReadEvent(%q) share a list", text)
		}
	}
}
