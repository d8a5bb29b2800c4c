package tests

import (
	"fmt"
	"math"
	"slices"
	"strings"
	"testing"

	"loop.example/g00127/impl"
)

// The Keys that a right state may have, and some that it may not.
var (
	rightKeys = []int{1, 2, 3, 11, 12, 13, 14, 15}
	wrongKeys = []int{0, 4, 5, 9, 10, 16, 17, 21, 100, 257, 267, -1, -2, -3, -11, math.MinInt, math.MaxInt}
)

// itemsOf are Items of these Keys; the Id of each tells its place.
func itemsOf(keys ...int) (s []impl.Item) {
	for at, key := range keys {
		s = append(s, impl.Item{Key: key, Id: 100 + at})
	}
	return s
}

// rightStates are of all choices of Keys, from none to all eight.
func rightStates() (list [][]impl.Item) {
	for choice := range 256 {
		var keys []int
		for bit, key := range rightKeys {
			if choice>>bit&1 == 1 {
				keys = append(keys, key)
			}
		}
		list = append(list, itemsOf(keys...))
	}
	return list
}

func wrongStates() [][]impl.Item {
	list := [][]impl.Item{
		itemsOf(2, 1), itemsOf(1, 1), itemsOf(15, 15), itemsOf(11, 3), itemsOf(15, 14), itemsOf(1, 2, 2), itemsOf(1, 3, 2), itemsOf(1, 11, 11, 12), itemsOf(1, 2, 3, 11, 12, 13, 15, 14),
		// One more than eight.
		itemsOf(1, 2, 3, 11, 12, 13, 14, 15, 16), itemsOf(0, 1, 2, 3, 11, 12, 13, 14, 15), itemsOf(1, 2, 3, 4, 11, 12, 13, 14, 15), itemsOf(1, 2, 3, 11, 12, 13, 14, 15, 15), itemsOf(1, 1, 2, 3, 11, 12, 13, 14, 15),
		make([]impl.Item, 1), make([]impl.Item, 8), make([]impl.Item, 9), make([]impl.Item, 3000), slices.Repeat(itemsOf(1), 9),
	}
	for _, key := range wrongKeys {
		list = append(list, itemsOf(key), itemsOf(1, key), itemsOf(key, 15), itemsOf(1, 2, 3, key, 11))
	}
	for _, id := range wrongIndex {
		list = append(list, []impl.Item{{Key: 1, Id: id}}, []impl.Item{{Key: 1, Id: 7}, {Key: 15, Id: id}}, []impl.Item{{Key: 2, Id: id}, {Key: 3, Id: 7}})
	}
	return list
}

func rightStateByHand(s []impl.Item) bool {
	var keys []int
	for _, item := range s {
		if !slices.Contains(rightKeys, item.Key) || item.Id < 1 || item.Id > 1000000 {
			return false
		}
		keys = append(keys, item.Key)
	}
	return len(s) <= 8 && slices.Equal(keys, slices.Compact(slices.Sorted(slices.Values(keys))))
}

// putStateByHand takes away what has the Key, and sorts.
func putStateByHand(s []impl.Item, key, id int) []impl.Item {
	if !rightStateByHand(s) || !rightStateByHand([]impl.Item{{Key: key, Id: id}}) {
		return s
	}
	put := []impl.Item{{Key: key, Id: id}}
	for _, item := range s {
		if item.Key != key {
			put = append(put, item)
		}
	}
	slices.SortFunc(put, func(a, b impl.Item) int { return a.Key - b.Key })
	return put
}

func shownState(s []impl.Item) string {
	return fmt.Sprintf("%d Items %.160s", len(s), fmt.Sprint(s))
}

func holdState(t *testing.T, s []impl.Item, right bool) {
	t.Helper()
	if rightStateByHand(s) != right {
		t.Fatalf("the test is wrong: of %s it says %v", shownState(s), right)
	}
	if impl.StateOk(s) != right {
		t.Errorf("StateOk(%s) is %v", shownState(s), !right)
	}
}

func wantPut(t *testing.T, s []impl.Item, key, id int, want []impl.Item) {
	t.Helper()
	before := slices.Clone(s)
	if got := impl.Put(s, key, id); !slices.Equal(got, want) {
		t.Errorf("Put(%s, %d, %d) = %s; want %s", shownState(s), key, id, shownState(got), shownState(want))
	}
	if !slices.Equal(s, before) {
		t.Errorf("Put(%s, %d, %d) wrote into its argument: %s", shownState(before), key, id, shownState(s))
	}
}

func wantAt(t *testing.T, s []impl.Item, key, want int) {
	t.Helper()
	if got := impl.At(s, key); got != want {
		t.Errorf("At(%s, %d) = %d; want %d", shownState(s), key, got, want)
	}
}

func TestStateKeys(t *testing.T) {
	for key := -3; key <= 30; key++ {
		holdState(t, itemsOf(key), key >= 1 && key <= 3 || key >= 11 && key <= 10+impl.MaxUsers)
	}
	for _, key := range rightKeys {
		holdState(t, itemsOf(key), true)
	}
	for _, key := range wrongKeys {
		holdState(t, itemsOf(key), false)
	}
}

func TestStateIds(t *testing.T) {
	for at := range 8 {
		s := itemsOf(rightKeys...)
		for _, id := range edgeIndexes {
			s[at].Id = id
			holdState(t, s, true)
			holdState(t, s[at:at+1], true)
		}
		for _, id := range wrongIndex {
			s[at].Id = id
			holdState(t, s, false)
			holdState(t, s[at:at+1], false)
		}
	}
	// Ids may be alike, and in any order.
	holdState(t, []impl.Item{{Key: 1, Id: 9}, {Key: 2, Id: 9}, {Key: 11, Id: 3}, {Key: 12, Id: 1}}, true)
}

func TestStatesOfAllChoices(t *testing.T) {
	holdState(t, nil, true)
	holdState(t, []impl.Item{}, true)
	for _, s := range rightStates() {
		holdState(t, s, true)
		for at := 1; at < len(s); at++ {
			swapped, alike := slices.Clone(s), slices.Clone(s)
			swapped[at-1], swapped[at] = s[at], s[at-1]
			alike[at].Key = s[at-1].Key
			holdState(t, swapped, false)
			holdState(t, alike, false)
		}
		for at, item := range s {
			holdState(t, slices.Insert(slices.Clone(s), at, item), false)
		}
	}
	for _, s := range wrongStates() {
		holdState(t, s, false)
	}
}

// Every list of up to three Keys about the edges.
func TestStatesOfAllLists(t *testing.T) {
	var try func(s []impl.Item)
	try = func(s []impl.Item) {
		holdState(t, s, rightStateByHand(s))
		if len(s) < 3 {
			for _, key := range []int{0, 1, 2, 3, 4, 10, 11, 12, 15, 16} {
				for _, id := range []int{0, 1, impl.MaxIndex, impl.MaxIndex + 1} {
					try(append(slices.Clone(s), impl.Item{Key: key, Id: id}))
				}
			}
		}
	}
	try(nil)
}

func TestAtOfRightStates(t *testing.T) {
	for _, s := range rightStates() {
		told := map[int]int{}
		for _, item := range s {
			told[item.Key] = item.Id
		}
		for key := -3; key <= 30; key++ {
			wantAt(t, s, key, told[key])
		}
		for _, key := range wrongKeys {
			wantAt(t, s, key, 0)
		}
	}
	for _, id := range edgeIndexes {
		wantAt(t, []impl.Item{{Key: 3, Id: 7}, {Key: 15, Id: id}}, 15, id)
	}
}

// Of a state that is not right At asks for nothing but the Key: the first Item that has it tells.
func TestAtOfWrongStates(t *testing.T) {
	for _, c := range []struct {
		s         []impl.Item
		key, want int
	}{
		{itemsOf(2, 1), 1, 101}, {itemsOf(2, 1), 2, 100}, {itemsOf(2, 1), 3, 0},
		{itemsOf(1, 1), 1, 100}, {itemsOf(3, 1, 3, 1), 1, 101}, {itemsOf(15, 11, 15), 15, 100},
		{itemsOf(0), 0, 100}, {itemsOf(4, 10, 16), 4, 100}, {itemsOf(4, 10, 16), 10, 101}, {itemsOf(4, 10, 16), 16, 102}, {itemsOf(4, 10, 16), 11, 0},
		{itemsOf(-1, math.MinInt, math.MaxInt), math.MaxInt, 102}, {itemsOf(-1, math.MinInt, math.MaxInt), math.MinInt, 101},
		{[]impl.Item{{Key: 1, Id: 0}}, 1, 0}, {[]impl.Item{{Key: 1, Id: 0}, {Key: 1, Id: 5}}, 1, 0}, {[]impl.Item{{Key: 1, Id: -4}}, 1, -4}, {[]impl.Item{{Key: 1, Id: impl.MaxIndex + 1}}, 1, impl.MaxIndex + 1},
		{make([]impl.Item, 3000), 0, 0}, {make([]impl.Item, 3000), 1, 0}, {append(make([]impl.Item, 3000), impl.Item{Key: 3, Id: 8}), 3, 8},
	} {
		wantAt(t, c.s, c.key, c.want)
	}
}

func TestPutByPlace(t *testing.T) {
	s := []impl.Item{{Key: 2, Id: 20}, {Key: 11, Id: 21}, {Key: 14, Id: 22}}
	for _, c := range []struct {
		key, id int
		want    []impl.Item
	}{
		{1, 9, []impl.Item{{Key: 1, Id: 9}, {Key: 2, Id: 20}, {Key: 11, Id: 21}, {Key: 14, Id: 22}}},
		{2, 9, []impl.Item{{Key: 2, Id: 9}, {Key: 11, Id: 21}, {Key: 14, Id: 22}}},
		{3, 9, []impl.Item{{Key: 2, Id: 20}, {Key: 3, Id: 9}, {Key: 11, Id: 21}, {Key: 14, Id: 22}}},
		{11, 9, []impl.Item{{Key: 2, Id: 20}, {Key: 11, Id: 9}, {Key: 14, Id: 22}}},
		{12, 22, []impl.Item{{Key: 2, Id: 20}, {Key: 11, Id: 21}, {Key: 12, Id: 22}, {Key: 14, Id: 22}}},
		{14, 22, s},
		{14, 1, []impl.Item{{Key: 2, Id: 20}, {Key: 11, Id: 21}, {Key: 14, Id: 1}}},
		{15, impl.MaxIndex, []impl.Item{{Key: 2, Id: 20}, {Key: 11, Id: 21}, {Key: 14, Id: 22}, {Key: 15, Id: impl.MaxIndex}}},
		{0, 9, s}, {4, 9, s}, {10, 9, s}, {16, 9, s}, {-1, 9, s}, {1, 0, s}, {2, 0, s}, {2, -1, s}, {15, impl.MaxIndex + 1, s}, {14, impl.MaxIndex + 1, s}, {0, 0, s},
	} {
		wantPut(t, s, c.key, c.id, c.want)
	}
	for _, empty := range [][]impl.Item{nil, {}} {
		wantPut(t, empty, 12, 7, []impl.Item{{Key: 12, Id: 7}})
		wantPut(t, empty, 10, 7, nil)
		wantPut(t, empty, 12, 0, nil)
	}
}

func TestPutIntoAllChoices(t *testing.T) {
	ids := append(slices.Concat(edgeIndexes, wrongIndex), 100, 107)
	for _, s := range rightStates() {
		for _, key := range slices.Concat(rightKeys, wrongKeys) {
			for _, id := range ids {
				wantPut(t, s, key, id, putStateByHand(s, key, id))
			}
		}
	}
}

// Of eight Items none is new: each Key is there already.
func TestPutIntoFullState(t *testing.T) {
	full := itemsOf(rightKeys...)
	for at, key := range rightKeys {
		want := slices.Clone(full)
		want[at].Id = 5
		wantPut(t, full, key, 5, want)
	}
	for _, key := range wrongKeys {
		wantPut(t, full, key, 5, full)
	}
}

// What is not right stays as it is, also where what is put would mend it.
func TestPutIntoWrongStates(t *testing.T) {
	for _, s := range wrongStates() {
		for _, key := range slices.Concat(rightKeys, wrongKeys) {
			for _, id := range []int{0, 1, 7, impl.MaxIndex, impl.MaxIndex + 1} {
				wantPut(t, s, key, id, s)
			}
		}
	}
}

// Promise 10: of states that are put together in many steps each Key has what was put last, and nothing else changes.
func TestStateHasWhatWasPutLast(t *testing.T) {
	next := draws(10)
	for range 300 {
		var s []impl.Item
		last := map[int]int{}
		for range next(40) {
			key, id := next(18), next(40)
			switch next(10) {
			case 0:
				id = []int{impl.MaxIndex, impl.MaxIndex + 1, -1}[next(3)]
			case 1:
				key = wrongKeys[next(len(wrongKeys))]
			}
			s = impl.Put(s, key, id)
			if slices.Contains(rightKeys, key) && id >= 1 && id <= impl.MaxIndex {
				last[key] = id
			}
			if !impl.StateOk(s) || len(s) != len(last) {
				t.Fatalf("Put(.., %d, %d) makes %s; want %v", key, id, shownState(s), last)
			}
			for key := -1; key <= 20; key++ {
				wantAt(t, s, key, last[key])
			}
		}
	}
}

func TestDrawnStates(t *testing.T) {
	next := draws(11)
	right := map[bool]int{}
	for range 30000 {
		var s []impl.Item
		key := 0
		for range next(11) {
			key += 1 + next(2)
			if key > 3 && key < 11 && next(20) > 0 {
				key = 11
			}
			s = append(s, impl.Item{Key: key, Id: 1 + next(impl.MaxIndex)})
		}
		if len(s) > 0 && next(4) == 0 {
			at := next(len(s))
			s[at] = []impl.Item{{Key: next(18), Id: 3}, {Key: s[at].Key, Id: wrongIndex[next(len(wrongIndex))]}, s[next(len(s))]}[next(3)]
		}
		want := rightStateByHand(s)
		holdState(t, s, want)
		right[want]++
		put, id := next(18), next(5)
		wantPut(t, s, put, id, putStateByHand(s, put, id))
	}
	if right[true] < 5000 || right[false] < 5000 {
		t.Errorf("of the states drawn %d are right, %d are not", right[true], right[false])
	}
}

func wantKnown(t *testing.T, list []impl.Event, id int, want impl.Event) {
	t.Helper()
	if e, ok := impl.Known(list, id); !ok || !sameEvent(e, want) {
		t.Errorf("Known(.., %d) = %s, %v; want %s, true", id, shownEvent(e), ok, shownEvent(want))
	}
}

func refuseKnown(t *testing.T, list []impl.Event, id int) {
	t.Helper()
	if e, ok := impl.Known(list, id); ok || !sameEvent(e, impl.Event{}) {
		t.Errorf("Known(.., %d) = %s, %v; want nothing", id, shownEvent(e), ok)
	}
}

func TestKnown(t *testing.T) {
	var list []impl.Event
	for kind := impl.KindCreate; kind <= impl.KindSay; kind++ {
		list = append(list, baseEvents()[kind])
	}
	for id := -3; id <= 50; id++ {
		if id < 31 || id > 35 {
			refuseKnown(t, list, id)
			refuseKnown(t, nil, id)
			refuseKnown(t, []impl.Event{}, id)
			continue
		}
		wantKnown(t, list, id, baseEvents()[id-30])
		refuseKnown(t, list[:id-31], id)
		wantKnown(t, list[id-31:], id, baseEvents()[id-30])
	}
	for _, id := range wrongIndex {
		refuseKnown(t, list, id)
	}
}

func TestKnownTwice(t *testing.T) {
	one := impl.Event{Id: 7, Kind: impl.KindSay, Sender: 1, Text: "one", Prev: []int{1}}
	two := impl.Event{Id: 7, Kind: impl.KindName, Sender: 2, Text: "two", Prev: []int{2}, Depth: 3}
	other := impl.Event{Id: 8, Kind: impl.KindSay, Sender: 3, Prev: []int{7}}
	for _, c := range []struct {
		list []impl.Event
		want impl.Event
	}{
		{[]impl.Event{one, two}, one}, {[]impl.Event{two, one}, two}, {[]impl.Event{other, one, other, two}, one}, {[]impl.Event{two, other, one, one}, two}, {[]impl.Event{one, one}, one},
	} {
		wantKnown(t, c.list, 7, c.want)
	}
}

// Known asks for nothing but the Id, be the event right or not.
func TestKnownOfWrongEvents(t *testing.T) {
	for _, id := range slices.Concat(edgeIndexes, wrongIndex) {
		e := impl.Event{Id: id, Kind: 9, Sender: -1, User: 77, Member: 12, Levels: []int{101, -1}, Text: longText(300), Prev: []int{id, id, 0, -5}, Depth: -1}
		wantKnown(t, []impl.Event{{Id: 4}, e, {Id: id}}, id, e)
	}
	wantKnown(t, make([]impl.Event, 3000), 0, impl.Event{})
	refuseKnown(t, make([]impl.Event, 3000), 1)
}

// unseen is the member of a user whom an Item tells of, but whose event is not in the list.
const unseen = 99

// place is a room as a test sets it up.
type place struct {
	// maker sent the KindCreate; there is none without.
	maker int
	// members are those whom an Item tells of.
	members map[int]int
	// levels are those that a KindPower tells, if there are any.
	levels []int
}

// Ids of the events of a place; that of a member is the last one and the user.
const (
	idCreate = 201
	idPower  = 202
	idMember = 210
)

// strayEvents are in the list, but no state tells of them.
func strayEvents() (list []impl.Event) {
	for user := 1; user <= 5; user++ {
		for member := range 4 {
			list = append(list, impl.Event{Id: 300 + 10*user + member, Kind: impl.KindMember, Sender: user, User: user, Member: member, Prev: []int{1}})
		}
		list = append(list, impl.Event{Id: 400 + user, Kind: impl.KindCreate, Sender: user})
	}
	return append(list,
		impl.Event{Id: 500, Kind: impl.KindPower, Sender: 1, Levels: []int{100, 100, 100, 100, 100}, Prev: []int{1}},
		impl.Event{Id: 501, Kind: impl.KindPower, Sender: 1, Levels: []int{0, 0, 0, 0, 0}, Prev: []int{1}})
}

// set is the list of events and the state of a place.
func (p place) set() (list []impl.Event, s []impl.Item) {
	list = strayEvents()
	if p.maker != 0 {
		list = append(list, impl.Event{Id: idCreate, Kind: impl.KindCreate, Sender: p.maker})
		s = append(s, impl.Item{Key: 1, Id: idCreate})
	}
	if p.levels != nil {
		list = append(list, impl.Event{Id: idPower, Kind: impl.KindPower, Sender: 5, Levels: p.levels, Prev: []int{1}})
		s = append(s, impl.Item{Key: 2, Id: idPower})
	}
	for user := 1; user <= 5; user++ {
		member, told := p.members[user]
		if !told {
			continue
		}
		if member != unseen {
			// Sent by another one, so that it counts of whom an event tells, not who sent it.
			list = append(list, impl.Event{Id: idMember + user, Kind: impl.KindMember, Sender: 1 + user%5, User: user, Member: member, Prev: []int{1}})
		}
		s = append(s, impl.Item{Key: 10 + user, Id: idMember + user})
	}
	return append(list, impl.Event{Id: 299, Kind: impl.KindSay, Sender: 1, Prev: []int{1}}), s
}

func (p place) member(user int) int {
	if member, told := p.members[user]; told && member != unseen {
		return member
	}
	return impl.Left
}

func (p place) level(user int) int {
	switch {
	case user < 1 || user > 5:
		return 0
	case p.levels != nil:
		return p.levels[user-1]
	case user == p.maker:
		return 100
	}
	return 0
}

// Who may tell whom what, by what the user is: of oneself, and of another one.
var (
	ownMembers   = map[[2]int]bool{{impl.Invited, impl.Joined}: true, {impl.Joined, impl.Joined}: true, {impl.Invited, impl.Left}: true, {impl.Joined, impl.Left}: true}
	asking       = map[[2]int]bool{{impl.Left, impl.Invited}: true}
	needingLevel = map[[2]int]bool{{impl.Invited, impl.Left}: true, {impl.Joined, impl.Left}: true, {impl.Left, impl.Banned}: true, {impl.Invited, impl.Banned}: true, {impl.Joined, impl.Banned}: true}
)

// allowed is what the chapter says of a right event, from what the place was made of.
func (p place) allowed(e impl.Event) bool {
	if e.Kind == impl.KindCreate {
		return p.maker == 0 && p.levels == nil && len(p.members) == 0
	}
	if p.maker == 0 {
		return false
	}
	in, level := p.member(e.Sender) == impl.Joined, p.level(e.Sender)
	switch e.Kind {
	case impl.KindSay:
		return in
	case impl.KindName:
		return in && level >= 50
	case impl.KindPower:
		return in && level >= 50 && p.levelsAllowed(e)
	}
	move := [2]int{p.member(e.User), e.Member}
	if e.Sender == e.User {
		return ownMembers[move] || e.Member == impl.Joined && e.User == p.maker && len(p.members) == 0
	}
	return in && (asking[move] || needingLevel[move] && level >= 50 && level > p.level(e.User))
}

func (p place) levelsAllowed(e impl.Event) bool {
	own := p.level(e.Sender)
	for user := 1; user <= 5; user++ {
		was, is := p.level(user), e.Levels[user-1]
		switch {
		case was == is:
		case is > own:
			return false
		case user == e.Sender:
		case was >= own:
			return false
		}
	}
	return true
}

func (p place) String() string {
	return fmt.Sprintf("made by %d, members %v, levels %v", p.maker, p.members, p.levels)
}

// hold holds Allowed of a right event against what a test wants, and against what the chapter says.
func (p place) hold(t *testing.T, e impl.Event, want bool) {
	t.Helper()
	if !rightEventByHand(e) || p.allowed(e) != want {
		t.Fatalf("the test is wrong: of %s in a place %v it says %v", shownEvent(e), p, want)
	}
	list, s := p.set()
	if impl.Allowed(list, s, e) != want {
		t.Errorf("Allowed of %s in a place %v is %v", shownEvent(e), p, !want)
	}
}

func (p place) holdMembers(t *testing.T) {
	t.Helper()
	list, s := p.set()
	for _, user := range append([]int{-1, 0, 1, 2, 3, 4, 5, 6, 7}, wrongUsers...) {
		if member := impl.MemberOf(list, s, user); member != p.member(user) {
			t.Errorf("MemberOf of %d in a place %v is %d", user, p, member)
		}
		if level := impl.LevelOf(list, s, user); level != p.level(user) {
			t.Errorf("LevelOf of %d in a place %v is %d", user, p, level)
		}
	}
}

func member(sender, user, member int) impl.Event {
	return impl.Event{Id: 9, Kind: impl.KindMember, Sender: sender, User: user, Member: member, Prev: []int{8}, Depth: 1}
}

func power(sender int, levels ...int) impl.Event {
	return impl.Event{Id: 9, Kind: impl.KindPower, Sender: sender, Levels: levels, Prev: []int{8}, Depth: 1}
}

func name(sender int) impl.Event {
	return impl.Event{Id: 9, Kind: impl.KindName, Sender: sender, Text: "room", Prev: []int{8}, Depth: 1}
}

func say(sender int) impl.Event {
	return impl.Event{Id: 9, Kind: impl.KindSay, Sender: sender, Text: "hi", Prev: []int{8}, Depth: 1}
}

func create(sender int) impl.Event {
	return impl.Event{Id: 9, Kind: impl.KindCreate, Sender: sender}
}

// somePlaces have each user in each way, and levels told or not.
func somePlaces() (list []place) {
	for maker := range 6 {
		for _, levels := range [][]int{nil, {100, 50, 49, 0, 51}, {0, 0, 0, 0, 0}, {50, 50, 50, 50, 50}, {10, 20, 30, 40, 99}} {
			list = append(list, place{maker: maker, levels: levels})
			for user := 1; user <= 5; user++ {
				for _, m := range []int{impl.Left, impl.Invited, impl.Joined, impl.Banned, unseen} {
					list = append(list, place{maker: maker, levels: levels, members: map[int]int{user: m}})
					list = append(list, place{maker: maker, levels: levels, members: map[int]int{1: impl.Joined, 2: impl.Joined, 3: impl.Banned, 4: impl.Invited, 5: impl.Left, user: m}})
				}
			}
		}
	}
	return list
}

// everyMove is a right event of each Kind and Sender, of each User and Member; levels are those of a KindPower.
func everyMove(levels ...int) (list []impl.Event) {
	for sender := 1; sender <= 5; sender++ {
		list = append(list, create(sender), name(sender), say(sender), power(sender, levels...))
		for user := 1; user <= 5; user++ {
			for m := range 4 {
				list = append(list, member(sender, user, m))
			}
		}
	}
	return list
}

func TestMembersAndLevels(t *testing.T) {
	for _, p := range somePlaces() {
		p.holdMembers(t)
	}
}

func wantMember(t *testing.T, list []impl.Event, s []impl.Item, user, want int) {
	t.Helper()
	if got := impl.MemberOf(list, s, user); got != want {
		t.Errorf("MemberOf(.., %s, %d) = %d; want %d", shownState(s), user, got, want)
	}
}

func wantLevel(t *testing.T, list []impl.Event, s []impl.Item, user, want int) {
	t.Helper()
	if got := impl.LevelOf(list, s, user); got != want {
		t.Errorf("LevelOf(.., %s, %d) = %d; want %d", shownState(s), user, got, want)
	}
}

func TestMemberOf(t *testing.T) {
	list := []impl.Event{
		{Id: 1, Kind: impl.KindCreate, Sender: 1},
		{Id: 2, Kind: impl.KindMember, Sender: 1, User: 1, Member: impl.Joined, Prev: []int{1}},
		{Id: 3, Kind: impl.KindMember, Sender: 1, User: 5, Member: impl.Invited, Prev: []int{2}},
		{Id: 4, Kind: impl.KindMember, Sender: 1, User: 5, Member: impl.Banned, Prev: []int{3}},
		{Id: 2, Kind: impl.KindMember, Sender: 1, User: 1, Member: impl.Banned, Prev: []int{1}},
	}
	for _, c := range []struct {
		s          []impl.Item
		user, want int
	}{
		{nil, 1, impl.Left},
		{[]impl.Item{{Key: 1, Id: 1}, {Key: 11, Id: 2}}, 1, impl.Joined},
		{[]impl.Item{{Key: 1, Id: 1}, {Key: 11, Id: 2}}, 5, impl.Left},
		{[]impl.Item{{Key: 1, Id: 1}, {Key: 11, Id: 2}, {Key: 15, Id: 3}}, 5, impl.Invited},
		{[]impl.Item{{Key: 1, Id: 1}, {Key: 11, Id: 2}, {Key: 15, Id: 4}}, 5, impl.Banned},
		{[]impl.Item{{Key: 15, Id: 5}}, 5, impl.Left},
		{[]impl.Item{{Key: 1, Id: 1}, {Key: 11, Id: 2}, {Key: 15, Id: 3}}, 0, impl.Left},
		{[]impl.Item{{Key: 1, Id: 1}, {Key: 11, Id: 2}, {Key: 15, Id: 3}}, 6, impl.Left},
		{[]impl.Item{{Key: 1, Id: 1}, {Key: 11, Id: 2}, {Key: 15, Id: 3}}, -1, impl.Left},
		{[]impl.Item{{Key: 1, Id: 1}, {Key: 11, Id: 2}, {Key: 15, Id: 3}}, math.MaxInt, impl.Left},
		{[]impl.Item{{Key: 1, Id: 1}, {Key: 11, Id: 2}, {Key: 15, Id: 3}}, math.MinInt, impl.Left},
	} {
		wantMember(t, list, c.s, c.user, c.want)
		wantMember(t, nil, c.s, c.user, impl.Left)
	}
}

// An event whose Id is 0 is not that of a Key that no Item has.
func TestNoItemIsNoEvent(t *testing.T) {
	list := []impl.Event{{Id: 0, Kind: impl.KindMember, Sender: 1, User: 1, Member: impl.Joined}, {Id: 1, Kind: impl.KindCreate, Sender: 2}}
	wantMember(t, list, nil, 1, impl.Left)
	wantMember(t, list, []impl.Item{{Key: 1, Id: 1}}, 1, impl.Left)
	wantLevel(t, []impl.Event{{Id: 0, Kind: impl.KindCreate, Sender: 1}}, nil, 1, 0)
	wantLevel(t, []impl.Event{{Id: 0, Kind: impl.KindPower, Levels: []int{9, 9, 9, 9, 9}}}, nil, 1, 0)
	if impl.Allowed(list, []impl.Item{{Key: 1, Id: 1}}, say(1)) {
		t.Error("one whom no Item tells of may say something")
	}
}

func TestLevelOf(t *testing.T) {
	list := []impl.Event{
		{Id: 1, Kind: impl.KindCreate, Sender: 5},
		{Id: 2, Kind: impl.KindPower, Sender: 1, Levels: []int{1, 2, 3, 4, 50}, Prev: []int{1}},
		{Id: 3, Kind: impl.KindPower, Sender: 1, Levels: []int{0, 100, 0, 49, 0}, Prev: []int{1}},
	}
	for _, c := range []struct {
		s    []impl.Item
		want [5]int
	}{
		{nil, [5]int{}},
		{[]impl.Item{{Key: 1, Id: 1}}, [5]int{4: 100}},
		{[]impl.Item{{Key: 1, Id: 1}, {Key: 2, Id: 2}}, [5]int{1, 2, 3, 4, 50}},
		{[]impl.Item{{Key: 1, Id: 1}, {Key: 2, Id: 3}}, [5]int{0, 100, 0, 49, 0}},
		{[]impl.Item{{Key: 2, Id: 3}}, [5]int{0, 100, 0, 49, 0}},
		// Of events that are not in the list nothing is told.
		{[]impl.Item{{Key: 1, Id: 1}, {Key: 2, Id: 4}}, [5]int{4: 100}},
		{[]impl.Item{{Key: 1, Id: 4}, {Key: 2, Id: 5}}, [5]int{}},
		{[]impl.Item{{Key: 1, Id: 4}}, [5]int{}},
		{[]impl.Item{{Key: 3, Id: 1}, {Key: 11, Id: 2}}, [5]int{}},
	} {
		for user, want := range c.want {
			wantLevel(t, list, c.s, user+1, want)
			wantLevel(t, nil, c.s, user+1, 0)
		}
		for _, user := range wrongUsers {
			wantLevel(t, list, c.s, user, 0)
		}
	}
}

// Events that are not right, or of another Kind than their Key: what is told is what the words say, and nothing is broken.
func TestLevelsOfWrongEvents(t *testing.T) {
	s := []impl.Item{{Key: 1, Id: 1}, {Key: 2, Id: 2}}
	made := impl.Event{Id: 1, Kind: impl.KindCreate, Sender: 2}
	short := impl.Event{Id: 2, Kind: impl.KindPower, Levels: []int{30}}
	wantLevel(t, []impl.Event{made, short}, s, 1, 30)
	wantLevel(t, []impl.Event{made, short}, s, 2, 0)
	long := impl.Event{Id: 2, Kind: impl.KindPower, Levels: []int{1, 2, 3, 4, 5, 6, 7}}
	wantLevel(t, []impl.Event{made, long}, s, 5, 5)
	wantLevel(t, []impl.Event{made, long}, s, 6, 0)
	// The event of the Key 2 is no KindPower, that of the Key 1 no KindCreate.
	named := impl.Event{Id: 2, Kind: impl.KindName, Sender: 2, Prev: []int{1}}
	wantLevel(t, []impl.Event{made, named}, s, 2, 100)
	wantLevel(t, []impl.Event{made, named}, s, 1, 0)
	said := impl.Event{Id: 1, Kind: impl.KindSay, Sender: 2, Prev: []int{3}}
	wantLevel(t, []impl.Event{said}, s, 2, 0)
	wantLevel(t, []impl.Event{{Id: 1, Kind: impl.KindCreate, Sender: 6}}, s, 6, 0)
	wantLevel(t, []impl.Event{{Id: 1, Kind: impl.KindCreate, Sender: 0}}, s, 0, 0)
}

// An event that is not right is not allowed, also where one that is would be.
func TestAllowedOfWrongEvents(t *testing.T) {
	p := place{maker: 1, members: map[int]int{1: impl.Joined, 2: impl.Invited}, levels: []int{100, 0, 0, 0, 0}}
	list, s := p.set()
	for _, e := range []impl.Event{member(1, 3, impl.Invited), power(1, 100, 50, 0, 0, 0), name(1), say(1)} {
		p.hold(t, e, true)
		for _, change := range []func(e *impl.Event){
			func(e *impl.Event) { e.Id = 0 }, func(e *impl.Event) { e.Id = impl.MaxIndex + 1 }, func(e *impl.Event) { e.Kind = 0 }, func(e *impl.Event) { e.Kind = 6 },
			func(e *impl.Event) { e.Sender = 0 }, func(e *impl.Event) { e.Sender = 6 }, func(e *impl.Event) { e.User = 6 }, func(e *impl.Event) { e.Member = 4 }, func(e *impl.Event) { e.Member = -1 },
			func(e *impl.Event) { e.Levels = []int{100} }, func(e *impl.Event) { e.Levels = []int{101, 0, 0, 0, 0} }, func(e *impl.Event) { e.Text = longText(25) },
			func(e *impl.Event) { e.Prev = nil }, func(e *impl.Event) { e.Prev = []int{e.Id} }, func(e *impl.Event) { e.Prev = []int{2, 1} }, func(e *impl.Event) { e.Prev = []int{1, 2, 3, 4} },
			func(e *impl.Event) { e.Depth = -1 }, func(e *impl.Event) { e.Depth = impl.MaxIndex + 1 },
		} {
			wrong := copyEvent(e)
			change(&wrong)
			if rightEventByHand(wrong) {
				t.Fatalf("the test is wrong: %s is right", shownEvent(wrong))
			}
			if impl.Allowed(list, s, wrong) {
				t.Errorf("Allowed of %s, which is not right", shownEvent(wrong))
			}
		}
	}
	for _, wrong := range []impl.Event{{}, {Id: 0, Kind: impl.KindCreate, Sender: 1}, {Id: 1, Kind: impl.KindCreate}, {Id: 1, Kind: impl.KindCreate, Sender: 6}, {Id: 1, Kind: impl.KindCreate, Sender: 1, Prev: []int{2}}, {Id: 1, Kind: impl.KindCreate, Sender: 1, Text: "x"}} {
		if impl.Allowed(nil, nil, wrong) || impl.Allowed(list, []impl.Item{}, wrong) {
			t.Errorf("Allowed of %s, which is not right, in an empty state", shownEvent(wrong))
		}
	}
}

func TestAllowedCreate(t *testing.T) {
	for sender := 1; sender <= 5; sender++ {
		place{}.hold(t, create(sender), true)
		if !impl.Allowed(nil, nil, create(sender)) || !impl.Allowed(strayEvents(), []impl.Item{}, create(sender)) {
			t.Errorf("KindCreate of %d is not allowed in an empty state", sender)
		}
		place{maker: sender}.hold(t, create(sender), false)
		place{maker: 1}.hold(t, create(sender), false)
		place{maker: 1, members: map[int]int{1: impl.Joined}, levels: []int{100, 100, 100, 100, 100}}.hold(t, create(sender), false)
		place{levels: []int{100, 100, 100, 100, 100}}.hold(t, create(sender), false)
		place{members: map[int]int{sender: impl.Joined}}.hold(t, create(sender), false)
		// Whatever stands in it, the state is not empty.
		for _, s := range slices.Concat(rightStates()[1:], wrongStates()) {
			if impl.Allowed(nil, s, create(sender)) || impl.Allowed(strayEvents(), s, create(sender)) {
				t.Errorf("KindCreate is allowed in %s", shownState(s))
			}
		}
	}
}

func TestNothingWithoutCreate(t *testing.T) {
	for _, members := range []map[int]int{nil, {1: impl.Joined}, {1: impl.Joined, 2: impl.Joined, 3: impl.Joined, 4: impl.Joined, 5: impl.Joined}, {1: impl.Invited, 2: impl.Invited}} {
		for _, levels := range [][]int{nil, {100, 100, 100, 100, 100}, {100, 50, 0, 0, 0}} {
			p := place{members: members, levels: levels}
			for _, e := range everyMove(0, 0, 0, 0, 0) {
				if e.Kind != impl.KindCreate {
					p.hold(t, e, false)
				}
			}
		}
	}
}

// A KindCreate that the list does not have is none, nor is an event of another Kind that stands in its place.
func TestNothingWithoutAKnownCreate(t *testing.T) {
	p := place{maker: 1, members: map[int]int{1: impl.Joined, 2: impl.Invited}, levels: []int{100, 0, 0, 0, 0}}
	list, s := p.set()
	at := slices.IndexFunc(list, func(e impl.Event) bool { return e.Id == idCreate })
	without := slices.Delete(slices.Clone(list), at, at+1)
	other := slices.Clone(list)
	other[at] = impl.Event{Id: idCreate, Kind: impl.KindName, Sender: 1, Prev: []int{1}}
	for _, e := range []impl.Event{say(1), name(1), power(1, 100, 0, 0, 0, 1), member(1, 3, impl.Invited), member(2, 2, impl.Joined), member(1, 1, impl.Left)} {
		p.hold(t, e, true)
		if impl.Allowed(without, s, e) || impl.Allowed(other, s, e) || impl.Allowed(nil, s, e) {
			t.Errorf("Allowed of %s without a KindCreate in the list", shownEvent(e))
		}
	}
}

func TestAllowedOfOneself(t *testing.T) {
	// What one may become, by what one is: Left, Invited, Joined, Banned.
	want := map[int][4]bool{
		impl.Left:    {},
		impl.Invited: {impl.Left: true, impl.Joined: true},
		impl.Joined:  {impl.Left: true, impl.Joined: true},
		impl.Banned:  {},
		unseen:       {},
	}
	for user := 1; user <= 5; user++ {
		for is, may := range want {
			for becomes := range 4 {
				for maker := 1; maker <= 5; maker++ {
					for _, levels := range [][]int{nil, {100, 100, 100, 100, 100}, {0, 0, 0, 0, 0}} {
						p := place{maker: maker, members: map[int]int{user: is}, levels: levels}
						p.hold(t, member(user, user, becomes), may[becomes])
					}
				}
			}
		}
	}
}

// Who sent the KindCreate comes in first, without being asked; nobody else does, and nobody once an Item tells a member.
func TestFirstOneToComeIn(t *testing.T) {
	for maker := 1; maker <= 5; maker++ {
		for _, levels := range [][]int{nil, {0, 0, 0, 0, 0}, {100, 100, 100, 100, 100}} {
			p := place{maker: maker, levels: levels}
			for user := 1; user <= 5; user++ {
				p.hold(t, member(user, user, impl.Joined), user == maker)
				for _, m := range []int{impl.Left, impl.Invited, impl.Banned} {
					p.hold(t, member(user, user, m), false)
				}
				for other := 1; other <= 5; other++ {
					for m := range 4 {
						if other != user {
							p.hold(t, member(user, other, m), false)
						}
					}
					for _, is := range []int{impl.Left, impl.Invited, impl.Joined, impl.Banned, unseen} {
						told := place{maker: maker, levels: levels, members: map[int]int{other: is}}
						asked := other == user && (is == impl.Invited || is == impl.Joined)
						told.hold(t, member(user, user, impl.Joined), asked)
					}
				}
			}
			// Until then nothing else happens.
			for sender := 1; sender <= 5; sender++ {
				p.hold(t, say(sender), false)
				p.hold(t, name(sender), false)
				p.hold(t, power(sender, 0, 0, 0, 0, 0), false)
			}
		}
	}
	// A name that is told is no member.
	list, s := place{maker: 4}.set()
	if !impl.Allowed(list, append(s, impl.Item{Key: 3, Id: 299}), member(4, 4, impl.Joined)) {
		t.Error("who sent the KindCreate can't come in behind a name")
	}
}

func TestAllowedOfAnother(t *testing.T) {
	states := []int{impl.Left, impl.Invited, impl.Joined, impl.Banned, unseen}
	ranks := [][2]int{{49, 0}, {49, 48}, {50, 0}, {50, 49}, {50, 50}, {50, 51}, {51, 50}, {100, 99}, {100, 100}, {99, 100}, {100, 0}, {0, 0}, {0, 100}, {51, 51}, {49, 49}}
	// What another one may become, without any level and with it, by what that one is.
	free := map[int][4]bool{impl.Left: {impl.Invited: true}, unseen: {impl.Invited: true}}
	ranked := map[int][4]bool{
		impl.Left: {impl.Banned: true}, unseen: {impl.Banned: true}, impl.Banned: {},
		impl.Invited: {impl.Left: true, impl.Banned: true}, impl.Joined: {impl.Left: true, impl.Banned: true},
	}
	for _, pair := range [][2]int{{1, 2}, {2, 1}, {1, 5}, {5, 1}, {3, 4}} {
		for _, senderIs := range states {
			for _, userIs := range states {
				for _, rank := range ranks {
					levels := []int{7, 7, 7, 7, 7}
					levels[pair[0]-1], levels[pair[1]-1] = rank[0], rank[1]
					p := place{maker: 3, members: map[int]int{pair[0]: senderIs, pair[1]: userIs}, levels: levels}
					for becomes := range 4 {
						above := rank[0] >= 50 && rank[0] > rank[1]
						want := senderIs == impl.Joined && (free[userIs][becomes] || ranked[userIs][becomes] && above)
						p.hold(t, member(pair[0], pair[1], becomes), want)
					}
				}
			}
		}
	}
}

// Of a user without an Item, and with no KindPower, so that who made the room has 100 and all others have 0.
func TestAllowedOfAnotherWithoutPower(t *testing.T) {
	p := place{maker: 2, members: map[int]int{1: impl.Joined, 2: impl.Joined, 3: impl.Invited, 4: impl.Banned}}
	for _, c := range []struct {
		e    impl.Event
		want bool
	}{
		{member(2, 5, impl.Invited), true}, {member(1, 5, impl.Invited), true}, {member(3, 5, impl.Invited), false}, {member(4, 5, impl.Invited), false},
		{member(2, 5, impl.Banned), true}, {member(1, 5, impl.Banned), false}, {member(2, 5, impl.Left), false}, {member(2, 5, impl.Joined), false},
		{member(2, 1, impl.Left), true}, {member(2, 1, impl.Banned), true}, {member(1, 2, impl.Left), false}, {member(1, 2, impl.Banned), false}, {member(2, 1, impl.Invited), false}, {member(2, 1, impl.Joined), false},
		{member(2, 3, impl.Left), true}, {member(2, 3, impl.Banned), true}, {member(2, 3, impl.Joined), false}, {member(2, 3, impl.Invited), false}, {member(1, 3, impl.Left), false},
		{member(2, 4, impl.Left), false}, {member(2, 4, impl.Banned), false}, {member(2, 4, impl.Invited), false}, {member(2, 4, impl.Joined), false},
		{member(3, 3, impl.Joined), true}, {member(3, 3, impl.Left), true}, {member(4, 4, impl.Left), false}, {member(4, 4, impl.Joined), false}, {member(5, 5, impl.Joined), false},
		{name(2), true}, {name(1), false}, {name(3), false}, {say(1), true}, {say(2), true}, {say(3), false}, {say(4), false}, {say(5), false},
		{power(2, 0, 100, 0, 0, 0), true}, {power(2, 50, 100, 0, 0, 0), true}, {power(2, 100, 0, 100, 100, 100), true}, {power(1, 0, 100, 0, 0, 0), false},
	} {
		p.hold(t, c.e, c.want)
	}
}

func TestAllowedPower(t *testing.T) {
	for sender := 1; sender <= 5; sender++ {
		other := 1 + sender%5
		// levels has one level of the Sender, one of the other one, and 0 of all others.
		levels := func(own, others int) []int {
			list := make([]int, 5)
			list[sender-1], list[other-1] = own, others
			return list
		}
		for _, is := range []int{impl.Left, impl.Invited, impl.Joined, impl.Banned, unseen} {
			for _, own := range []int{0, 49, 50, 51, 100} {
				p := place{maker: 3, members: map[int]int{sender: is, other: impl.Joined}, levels: levels(own, 10)}
				p.hold(t, power(sender, levels(own, 10)...), is == impl.Joined && own >= 50)
				p.hold(t, power(sender, levels(own, 11)...), is == impl.Joined && own >= 50)
			}
		}
		for _, c := range []struct {
			own, others, ownThen, othersThen int
			want                             bool
		}{
			// From below, to below, to as high as the Sender's, and above it.
			{60, 10, 60, 0, true}, {60, 10, 60, 59, true}, {60, 59, 60, 10, true}, {60, 10, 60, 60, true}, {60, 10, 60, 61, false}, {60, 10, 60, 100, false},
			// From as high as the Sender's.
			{60, 60, 60, 60, true}, {60, 60, 60, 59, false}, {60, 60, 60, 0, false}, {60, 60, 60, 61, false},
			// From above it.
			{60, 61, 60, 61, true}, {60, 61, 60, 60, false}, {60, 61, 60, 0, false}, {60, 61, 60, 62, false}, {60, 100, 60, 99, false}, {60, 100, 60, 100, true},
			// The Sender's own.
			{60, 10, 59, 10, true}, {60, 10, 0, 10, true}, {60, 10, 61, 10, false}, {60, 10, 100, 10, false}, {60, 60, 0, 60, true}, {60, 100, 59, 100, true}, {100, 100, 0, 100, true},
			// Both: the Sender's is as it was.
			{60, 10, 0, 60, true}, {60, 10, 0, 61, false}, {60, 10, 61, 60, false}, {60, 60, 59, 0, false},
			{50, 49, 50, 50, true}, {50, 49, 50, 51, false}, {49, 10, 49, 0, false}, {49, 10, 0, 10, false}, {49, 10, 49, 10, false}, {100, 99, 100, 100, true}, {100, 100, 100, 99, false},
		} {
			p := place{maker: 3, members: map[int]int{sender: impl.Joined}, levels: levels(c.own, c.others)}
			p.hold(t, power(sender, levels(c.ownThen, c.othersThen)...), c.want)
		}
	}
}

// Levels that change from what who made the room has, and others have not, as long as no event tells any.
func TestAllowedFirstPower(t *testing.T) {
	for maker := 1; maker <= 5; maker++ {
		for sender := 1; sender <= 5; sender++ {
			p := place{maker: maker, members: map[int]int{sender: impl.Joined}}
			for _, levels := range [][]int{{0, 0, 0, 0, 0}, {100, 100, 100, 100, 100}, {50, 0, 0, 0, 100}} {
				p.hold(t, power(sender, levels...), sender == maker)
			}
		}
	}
}

func TestAllowedNameAndSay(t *testing.T) {
	for sender := 1; sender <= 5; sender++ {
		for _, is := range []int{impl.Left, impl.Invited, impl.Joined, impl.Banned, unseen} {
			for _, level := range []int{0, 1, 48, 49, 50, 51, 99, 100} {
				levels := []int{100, 100, 100, 100, 100}
				levels[sender-1] = level
				p := place{maker: sender, members: map[int]int{sender: is}, levels: levels}
				p.hold(t, name(sender), is == impl.Joined && level >= 50)
				p.hold(t, say(sender), is == impl.Joined)
			}
		}
	}
}

func TestAllowedInSomePlaces(t *testing.T) {
	for _, p := range somePlaces() {
		for _, e := range everyMove(100, 50, 49, 0, 51) {
			p.hold(t, e, p.allowed(e))
		}
	}
}

func drawnPlace(next func(int) int) place {
	p := place{maker: next(6), members: map[int]int{}}
	for user := 1; user <= 5; user++ {
		if next(3) > 0 {
			p.members[user] = []int{impl.Left, impl.Invited, impl.Joined, impl.Joined, impl.Joined, impl.Banned, unseen}[next(7)]
		}
	}
	if next(4) > 0 {
		for range 5 {
			p.levels = append(p.levels, []int{0, 49, 50, 51, 60, 100}[next(6)])
		}
	}
	return p
}

// Places and events drawn, held against what the chapter says of each.
func TestDrawnPlaces(t *testing.T) {
	next := draws(12)
	count := map[string]int{}
	for range 3000 {
		p := drawnPlace(next)
		p.holdMembers(t)
		levels := []int{p.level(1), p.level(2), p.level(3), p.level(4), p.level(5)}
		for range 1 + next(2) {
			levels[next(5)] = []int{0, 49, 50, 51, 60, 100}[next(6)]
		}
		for _, e := range everyMove(levels...) {
			want := p.allowed(e)
			p.hold(t, e, want)
			count[fmt.Sprint(e.Kind, e.Sender == e.User, want)]++
		}
	}
	for _, kind := range []string{"2 true", "2 false", "3 false", "4 false", "5 false"} {
		if count[kind+" true"] < 500 || count[kind+" false"] < 500 {
			t.Errorf("of the events drawn of %s there are %v", kind, count)
		}
	}
}

// Promise 10: who is not in the room does nothing in it, but come in when asked (or stay away then), or come in first into a room of one's own.
func TestNobodyOutsideDoesAnything(t *testing.T) {
	next := draws(13)
	places := somePlaces()
	for range 1500 {
		places = append(places, drawnPlace(next))
	}
	came := 0
	for _, p := range places {
		list, s := p.set()
		for _, e := range everyMove(next(101), next(101), next(101), next(101), next(101)) {
			if len(s) == 0 || p.member(e.Sender) == impl.Joined || !impl.Allowed(list, s, e) {
				continue
			}
			asked := p.member(e.Sender) == impl.Invited && (e.Member == impl.Joined || e.Member == impl.Left)
			first := p.maker == e.Sender && len(p.members) == 0 && e.Member == impl.Joined
			if e.Kind != impl.KindMember || e.User != e.Sender || !asked && !first {
				t.Errorf("%s is allowed in a place %v, to one who is not in the room", shownEvent(e), p)
			}
			came++
		}
	}
	if came < 100 {
		t.Errorf("%d from outside came in", came)
	}
}

// A room from its beginning on: what is allowed is put, and what was not allowed ahead is so behind it.
func TestALifeOfARoom(t *testing.T) {
	var list []impl.Event
	var s []impl.Item
	for at, step := range []struct {
		e    impl.Event
		want bool
	}{
		{say(1), false}, {member(1, 1, impl.Joined), false}, {create(1), true}, {create(1), false}, {create(2), false},
		{say(1), false}, {member(2, 2, impl.Joined), false}, {member(1, 1, impl.Joined), true}, {say(1), true},
		{member(2, 2, impl.Joined), false}, {member(1, 2, impl.Joined), false}, {member(1, 2, impl.Invited), true}, {say(2), false}, {member(2, 3, impl.Invited), false}, {member(2, 2, impl.Joined), true}, {say(2), true},
		{name(2), false}, {power(2, 100, 50, 0, 0, 0), false}, {power(1, 100, 50, 0, 0, 0), true}, {name(2), true},
		{member(2, 3, impl.Invited), true}, {member(3, 3, impl.Left), true}, {member(3, 3, impl.Joined), false}, {member(2, 3, impl.Banned), true}, {member(1, 3, impl.Invited), false}, {member(3, 3, impl.Joined), false},
		{power(2, 100, 60, 0, 0, 0), false}, {power(2, 0, 50, 0, 0, 0), false}, {power(1, 50, 50, 0, 0, 0), true}, {power(1, 50, 0, 0, 0, 0), false}, {member(1, 2, impl.Left), false}, {power(2, 50, 49, 0, 0, 0), true}, {member(1, 2, impl.Left), true},
		{say(2), false}, {member(2, 2, impl.Joined), false}, {member(1, 1, impl.Left), true}, {member(1, 1, impl.Joined), false}, {say(1), false},
	} {
		e := step.e
		e.Id = at + 1
		if e.Kind != impl.KindCreate {
			e.Prev = []int{at + 2}
		}
		if got := impl.Allowed(list, s, e); got != step.want {
			t.Fatalf("step %d: Allowed of %s is %v", at, shownEvent(e), got)
		}
		list = append(list, e)
		if step.want && impl.KeyOf(e) != 0 {
			s = impl.Put(s, impl.KeyOf(e), e.Id)
			wantAt(t, s, impl.KeyOf(e), e.Id)
		}
	}
}

// Arguments with spare room behind them: nothing is written into them or there, and no answer shares their memory.
func TestStatesAreNew(t *testing.T) {
	for _, s := range append(rightStates(), wrongStates()...) {
		room := append(slices.Clone(s), itemsOf(16, 17, 18)...)
		before := slices.Clone(room)
		for _, key := range []int{0, 1, 3, 4, 11, 13, 15, 16} {
			for _, id := range []int{0, 5, impl.MaxIndex} {
				first, second := impl.Put(room[:len(s)], key, id), impl.Put(room[:len(s)], key, id)
				want := slices.Clone(second)
				clear(first[:cap(first)])
				_ = append(first, itemsOf(1, 2, 3)...)
				if !slices.Equal(room, before) {
					t.Fatalf("Put(%s, %d, %d) shares memory with its argument", shownState(s), key, id)
				}
				clear(room)
				if !slices.Equal(second, want) {
					t.Fatalf("Put(%s, %d, %d) shares memory with its argument, or with another answer", shownState(s), key, id)
				}
				copy(room, before)
			}
		}
	}
}

func TestKnownIsNew(t *testing.T) {
	for _, e := range rightEvents() {
		e = copyEvent(e)
		e.Text = strings.Clone(e.Text)
		want := copyEvent(e)
		list := []impl.Event{{Id: impl.MaxIndex + 1}, e, e}
		first, ok := impl.Known(list, e.Id)
		second, again := impl.Known(list, e.Id)
		if !ok || !again || liesIn(first.Text, e.Text) || liesIn(first.Text, second.Text) {
			t.Fatalf("Known of %s is %s, %v, or shares its Text", shownEvent(e), shownEvent(first), ok)
		}
		clear(first.Levels[:cap(first.Levels)])
		clear(first.Prev[:cap(first.Prev)])
		if !sameEvent(list[1], want) || !sameEvent(second, want) {
			t.Fatalf("Known of %s shares memory with its argument, or with another answer", shownEvent(want))
		}
		clear(e.Levels)
		clear(e.Prev)
		if !sameEvent(second, want) {
			t.Fatalf("Known of %s changes with its argument", shownEvent(want))
		}
	}
	// An event with lists that are empty, but have room.
	room := []int{1, 2, 3}
	e, ok := impl.Known([]impl.Event{{Id: 4, Levels: room[:0], Prev: room[1:1]}}, 4)
	e.Levels, e.Prev = append(e.Levels, 7, 7), append(e.Prev, 8, 8)
	if !ok || !slices.Equal(room, []int{1, 2, 3}) {
		t.Errorf("Known shares the room behind its argument's lists: %v", room)
	}
}

func TestStateArgumentsStay(t *testing.T) {
	for _, p := range somePlaces() {
		list, s := p.set()
		list, s = append(list, say(5)), append(s, itemsOf(16, 17)...)
		events := list[:len(list)-1]
		items := s[:len(s)-2]
		var eventsBefore []impl.Event
		for _, e := range list {
			eventsBefore = append(eventsBefore, copyEvent(e))
		}
		itemsBefore := slices.Clone(s)
		for _, e := range everyMove(100, 50, 49, 0, 51) {
			before := copyEvent(e)
			impl.Allowed(events, items, e)
			if !sameEvent(e, before) {
				t.Fatalf("Allowed wrote into %s", shownEvent(before))
			}
		}
		for user := range 7 {
			impl.MemberOf(events, items, user)
			impl.LevelOf(events, items, user)
			impl.At(items, user)
			impl.Known(events, 200+user)
		}
		impl.StateOk(items)
		if !slices.Equal(s, itemsBefore) || !slices.EqualFunc(list, eventsBefore, sameEvent) {
			t.Fatalf("written into an argument, in a place %v", p)
		}
	}
}

// Whatever comes, all functions answer; and the same once more.
func TestStatesAnswerAtAll(t *testing.T) {
	next := draws(14)
	numbers := slices.Concat([]int{1, 2, 3, 4, 5, 10, 11, 15}, wrongUsers, wrongIndex)
	drawn := func() int { return numbers[next(len(numbers))] }
	for range 20000 {
		var list []impl.Event
		for range next(6) {
			e := drawnEvent(next)
			e.Id = drawn()
			list = append(list, e)
		}
		var s []impl.Item
		for range next(10) {
			s = append(s, impl.Item{Key: drawn(), Id: drawn()})
		}
		e, user := drawnEvent(next), drawn()
		answers := func() string {
			known, ok := impl.Known(list, user)
			return fmt.Sprint(impl.StateOk(s), impl.At(s, user), impl.Put(s, user, e.Id), known, ok, impl.MemberOf(list, s, user), impl.LevelOf(list, s, user), impl.Allowed(list, s, e))
		}
		if first, second := answers(), answers(); first != second {
			t.Fatalf("two answers to the same: %s and %s", first, second)
		}
	}
}
