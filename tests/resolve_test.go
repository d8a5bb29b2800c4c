package tests

import (
	"fmt"
	"math"
	"slices"
	"testing"

	"loop.example/g00127/impl"
)

// firstIds are the Ids of a state by its Keys; of Keys that are alike the first one counts.
func firstIds(s []impl.Item) map[int]int {
	ids := map[int]int{}
	for _, item := range slices.Backward(s) {
		ids[item.Key] = item.Id
	}
	return ids
}

// keysByHand are all Keys of some states, and of each whether all states have it with one Id.
func keysByHand(states [][]impl.Item) (keys []int, same map[int]bool) {
	same = map[int]bool{}
	for _, s := range states {
		for _, item := range s {
			keys = append(keys, item.Key)
		}
	}
	slices.Sort(keys)
	keys = slices.Compact(keys)
	for _, key := range keys {
		ids := map[int]int{}
		for _, s := range states {
			if id, there := firstIds(s)[key]; there {
				ids[id]++
			}
		}
		for _, count := range ids {
			same[key] = count == len(states)
		}
	}
	return keys, same
}

func clashByHand(states [][]impl.Item) (clash []int) {
	keys, same := keysByHand(states)
	return slices.DeleteFunc(keys, func(key int) bool { return same[key] })
}

func agreedByHand(states [][]impl.Item) (agreed []impl.Item) {
	keys, same := keysByHand(states)
	for _, key := range keys {
		if same[key] {
			agreed = append(agreed, impl.Item{Key: key, Id: firstIds(states[0])[key]})
		}
	}
	return agreed
}

// weightByHand is in the order of numbers what Heavier is among events.
func weightByHand(list []impl.Event, s []impl.Item, e impl.Event) []int {
	ruling := 1
	if e.Kind == 3 || e.Kind == 2 && e.Sender != e.User && (e.Member == 0 || e.Member == 3) {
		ruling = 0
	}
	return []int{ruling, -impl.LevelOf(list, s, e.Sender), e.Depth, e.Id}
}

// aheadByHand are all pairs of Ids of which the first is ahead of the second, found by going on until no more come.
func aheadByHand(list []impl.Event) map[[2]int]bool {
	prev := map[int][]int{}
	for _, e := range slices.Backward(list) {
		prev[e.Id] = e.Prev
	}
	ahead := map[[2]int]bool{}
	for count := -1; count != len(ahead); {
		count = len(ahead)
		for id, named := range prev {
			for _, p := range named {
				if _, there := prev[p]; !there {
					continue
				}
				ahead[[2]int{p, id}] = true
				for far := range prev {
					if ahead[[2]int{far, p}] {
						ahead[[2]int{far, id}] = true
					}
				}
			}
		}
	}
	return ahead
}

// orderByHand takes, as long as one can stand next, the least in weight of those that can.
func orderByHand(list []impl.Event, s []impl.Item, ids []int) (order []int) {
	ahead := aheadByHand(list)
	left := map[int][]int{}
	for _, e := range slices.Backward(list) {
		if slices.Contains(ids, e.Id) {
			left[e.Id] = weightByHand(list, s, e)
		}
	}
	for {
		best := []int(nil)
		for id, weight := range left {
			waits := false
			for other := range left {
				waits = waits || ahead[[2]int{other, id}]
			}
			if !waits && (best == nil || slices.Compare(weight, best) < 0) {
				best = weight
			}
		}
		if best == nil {
			return order
		}
		order = append(order, best[3])
		delete(left, best[3])
	}
}

func resolveByHand(list []impl.Event, states [][]impl.Item) []impl.Item {
	if len(states) == 0 {
		return nil
	}
	if !slices.ContainsFunc(states, func(s []impl.Item) bool { return !slices.Equal(s, states[0]) }) {
		return states[0]
	}
	var ids []int
	for _, key := range clashByHand(states) {
		for _, s := range states {
			if id, there := firstIds(s)[key]; there {
				ids = append(ids, id)
			}
		}
	}
	s := agreedByHand(states)
	for _, id := range orderByHand(list, s, ids) {
		e := list[slices.IndexFunc(list, func(e impl.Event) bool { return e.Id == id })]
		if impl.Allowed(list, s, e) {
			s = putStateByHand(s, impl.KeyOf(e), id)
		}
	}
	return s
}

// shuffled is a list in another order.
func shuffled[T any](next func(int) int, list []T) []T {
	list = slices.Clone(list)
	for at := range list {
		other := at + next(len(list)-at)
		list[at], list[other] = list[other], list[at]
	}
	return list
}

// inEachOrder are all orders in which a few can stand.
func inEachOrder[T any](list []T) (orders [][]T) {
	if len(list) == 0 {
		return [][]T{nil}
	}
	for at, first := range list {
		for _, rest := range inEachOrder(slices.Delete(slices.Clone(list), at, at+1)) {
			orders = append(orders, append([]T{first}, rest...))
		}
	}
	return orders
}

func shownStates(states [][]impl.Item) (text string) {
	for _, s := range states {
		text += " [" + shownState(s) + "]"
	}
	return text
}

func wantClash(t *testing.T, states [][]impl.Item, clash []int, agreed []impl.Item) {
	t.Helper()
	if !slices.Equal(clashByHand(states), clash) || !slices.Equal(agreedByHand(states), agreed) {
		t.Fatalf("the test is wrong: of%s it says %v, and %s", shownStates(states), clash, shownState(agreed))
	}
	if got := impl.Clash(states); !slices.Equal(got, clash) {
		t.Errorf("Clash of%s = %v; want %v", shownStates(states), got, clash)
	}
	if got := impl.Agreed(states); !slices.Equal(got, agreed) {
		t.Errorf("Agreed of%s = %s; want %s", shownStates(states), shownState(got), shownState(agreed))
	}
}

func TestClashAndAgreed(t *testing.T) {
	type items = []impl.Item
	a := items{{Key: 1, Id: 1}, {Key: 2, Id: 5}, {Key: 11, Id: 2}}
	for _, c := range []struct {
		states [][]impl.Item
		clash  []int
		agreed items
	}{
		// None, and one.
		{nil, nil, nil}, {[][]impl.Item{}, nil, nil}, {[][]impl.Item{nil}, nil, nil}, {[][]impl.Item{{}}, nil, nil}, {[][]impl.Item{a}, nil, a},
		// All that all have.
		{[][]impl.Item{a, a}, nil, a}, {[][]impl.Item{a, a, a}, nil, a}, {[][]impl.Item{nil, nil}, nil, nil}, {[][]impl.Item{nil, {}, nil}, nil, nil},
		// Unlike Ids.
		{[][]impl.Item{a, {{Key: 1, Id: 1}, {Key: 2, Id: 6}, {Key: 11, Id: 2}}}, []int{2}, items{{Key: 1, Id: 1}, {Key: 11, Id: 2}}},
		{[][]impl.Item{a, {{Key: 1, Id: 2}, {Key: 2, Id: 1}, {Key: 11, Id: 5}}}, []int{1, 2, 11}, nil},
		{[][]impl.Item{a, {{Key: 1, Id: 7}, {Key: 2, Id: 5}, {Key: 11, Id: 2}}, {{Key: 1, Id: 8}, {Key: 2, Id: 5}, {Key: 11, Id: 3}}}, []int{1, 11}, items{{Key: 2, Id: 5}}},
		// One of them lacks a Key.
		{[][]impl.Item{a, {{Key: 1, Id: 1}, {Key: 11, Id: 2}}}, []int{2}, items{{Key: 1, Id: 1}, {Key: 11, Id: 2}}},
		{[][]impl.Item{a, a, {{Key: 2, Id: 5}}}, []int{1, 11}, items{{Key: 2, Id: 5}}},
		{[][]impl.Item{a, a, nil}, []int{1, 2, 11}, nil}, {[][]impl.Item{nil, a}, []int{1, 2, 11}, nil}, {[][]impl.Item{a, {}}, []int{1, 2, 11}, nil},
		// One alone has a Key.
		{[][]impl.Item{a, {{Key: 1, Id: 1}, {Key: 2, Id: 5}, {Key: 3, Id: 4}, {Key: 11, Id: 2}}, a}, []int{3}, a},
		{[][]impl.Item{{{Key: 15, Id: 1}}, {{Key: 3, Id: 1}}, {{Key: 11, Id: 1}}}, []int{3, 11, 15}, nil},
		// The last of many lacks it, or has it with another Id.
		{append(slices.Repeat([][]impl.Item{a}, 20), a[1:]), []int{1}, a[1:]},
		{append(slices.Repeat([][]impl.Item{a}, 20), items{{Key: 1, Id: 1}, {Key: 2, Id: 5}, {Key: 11, Id: 3}}), []int{11}, a[:2]},
		{[][]impl.Item{itemsOf(rightKeys...), itemsOf(rightKeys...)}, nil, itemsOf(rightKeys...)},
		{[][]impl.Item{itemsOf(rightKeys...), nil}, rightKeys, nil},
	} {
		for _, states := range [][][]impl.Item{c.states, slices.Concat(c.states, c.states)} {
			wantClash(t, states, c.clash, c.agreed)
			slices.Reverse(states)
			wantClash(t, states, c.clash, c.agreed)
		}
	}
}

// States that are not right: any Key counts, the first Item that has it tells its Id, and the answer is in order of Keys.
func TestClashOfWrongStates(t *testing.T) {
	type items = []impl.Item
	for _, c := range []struct {
		states [][]impl.Item
		clash  []int
		agreed items
	}{
		// Keys that are alike.
		{[][]impl.Item{{{Key: 1, Id: 5}, {Key: 1, Id: 6}}}, nil, items{{Key: 1, Id: 5}}},
		{[][]impl.Item{{{Key: 1, Id: 5}, {Key: 1, Id: 5}}, {{Key: 1, Id: 5}}}, nil, items{{Key: 1, Id: 5}}},
		{[][]impl.Item{{{Key: 1, Id: 5}, {Key: 1, Id: 6}}, {{Key: 1, Id: 5}}}, nil, items{{Key: 1, Id: 5}}},
		{[][]impl.Item{{{Key: 1, Id: 5}, {Key: 1, Id: 6}}, {{Key: 1, Id: 6}}}, []int{1}, nil},
		{[][]impl.Item{{{Key: 1, Id: 5}, {Key: 1, Id: 6}}, {{Key: 1, Id: 6}, {Key: 1, Id: 5}}}, []int{1}, nil},
		// Not ascending.
		{[][]impl.Item{{{Key: 11, Id: 2}, {Key: 1, Id: 1}}}, nil, items{{Key: 1, Id: 1}, {Key: 11, Id: 2}}},
		{[][]impl.Item{{{Key: 11, Id: 2}, {Key: 1, Id: 1}}, {{Key: 1, Id: 1}, {Key: 11, Id: 2}}}, nil, items{{Key: 1, Id: 1}, {Key: 11, Id: 2}}},
		{[][]impl.Item{{{Key: 11, Id: 2}, {Key: 1, Id: 1}}, {{Key: 3, Id: 1}, {Key: 2, Id: 2}}}, []int{1, 2, 3, 11}, nil},
		// Keys and Ids out of range; an Item with the Id 0 is one.
		{[][]impl.Item{itemsOf(-1, 0, 4, 16), itemsOf(-1, 0, 4, 16)}, nil, itemsOf(-1, 0, 4, 16)},
		{[][]impl.Item{itemsOf(-1, 0, 4, 16), itemsOf(-1, 16, 4, 0)}, []int{0, 16}, items{{Key: -1, Id: 100}, {Key: 4, Id: 102}}},
		{[][]impl.Item{itemsOf(math.MaxInt, math.MinInt, 0), nil}, []int{math.MinInt, 0, math.MaxInt}, nil},
		{[][]impl.Item{{{Key: 1, Id: 0}}, nil}, []int{1}, nil}, {[][]impl.Item{{{Key: 1, Id: 0}}, {{Key: 1, Id: 0}}}, nil, items{{Key: 1, Id: 0}}},
		{[][]impl.Item{{{Key: 0, Id: 0}}, nil}, []int{0}, nil}, {[][]impl.Item{nil, make(items, 3000)}, []int{0}, nil}, {[][]impl.Item{make(items, 1), make(items, 3000)}, nil, make(items, 1)},
		{[][]impl.Item{{{Key: 2, Id: -7}, {Key: 3, Id: math.MaxInt}}, {{Key: 2, Id: -7}, {Key: 3, Id: math.MinInt}}}, []int{3}, items{{Key: 2, Id: -7}}},
	} {
		wantClash(t, c.states, c.clash, c.agreed)
		slices.Reverse(c.states)
		wantClash(t, c.states, c.clash, c.agreed)
	}
}

// drawnStates are about one state, some of them not right.
func drawnStates(next func(int) int) (states [][]impl.Item) {
	base := itemsOf(rightKeys...)
	for range next(5) {
		var s []impl.Item
		for _, item := range base {
			switch next(8) {
			case 0:
				item.Id += 1 + next(2)
				s = append(s, item)
			case 1:
			default:
				s = append(s, item)
			}
		}
		for next(6) == 0 && len(s) > 0 {
			at := next(len(s))
			s[at].Key = slices.Concat(rightKeys, []int{0, 4, 10, 16, -1})[next(13)]
		}
		states = append(states, s)
	}
	return states
}

func TestDrawnClashes(t *testing.T) {
	next := draws(110)
	right := map[bool]int{}
	for range 20000 {
		states := drawnStates(next)
		right[!slices.ContainsFunc(states, func(s []impl.Item) bool { return !rightStateByHand(s) })]++
		clash, agreed := clashByHand(states), agreedByHand(states)
		wantClash(t, states, clash, agreed)
		wantClash(t, shuffled(next, states), clash, agreed)
	}
	if right[true] < 5000 || right[false] < 5000 {
		t.Errorf("of the lists of states drawn %d are right, %d are not", right[true], right[false])
	}
}

// authByHand goes through the Items: those whose Key counts, and whose event the list has.
func authByHand(list []impl.Event, s []impl.Item, e impl.Event) (auth []int) {
	for key, id := range firstIds(s) {
		counts := key == 1 || key == 2 || key == 10+e.Sender || e.Kind == impl.KindMember && key == 10+e.User
		if counts && slices.ContainsFunc(list, func(known impl.Event) bool { return known.Id == id }) {
			auth = append(auth, id)
		}
	}
	slices.Sort(auth)
	return slices.Compact(auth)
}

func wantAuth(t *testing.T, list []impl.Event, s []impl.Item, e impl.Event, want ...int) {
	t.Helper()
	if got := authByHand(list, s, e); !slices.Equal(got, want) {
		t.Fatalf("the test is wrong: of %s and %s it says %v, and not %v", shownState(s), shownEvent(e), want, got)
	}
	if got := impl.AuthOf(list, s, e); !slices.Equal(got, want) {
		var ids []int
		for _, known := range list {
			ids = append(ids, known.Id)
		}
		t.Errorf("AuthOf(the events %v, %s, %s) = %v; want %v", ids, shownState(s), shownEvent(e), got, want)
	}
}

// eventsOf are events of these Ids, of no matter what Kind.
func eventsOf(ids ...int) (list []impl.Event) {
	for at, id := range ids {
		list = append(list, impl.Event{Id: id, Kind: 1 + at%5, Sender: 1, Prev: []int{7}})
	}
	return list
}

// toldBy are events of all Ids of a state.
func toldBy(s []impl.Item) []impl.Event {
	var ids []int
	for _, item := range s {
		ids = append(ids, item.Id)
	}
	return eventsOf(ids...)
}

// The Id of each Key is another one, and they do not ascend with the Keys.
var mixedState = []impl.Item{{Key: 1, Id: 40}, {Key: 2, Id: 10}, {Key: 3, Id: 30}, {Key: 11, Id: 20}, {Key: 12, Id: 50}, {Key: 13, Id: 5}, {Key: 14, Id: 60}, {Key: 15, Id: 1}}

func TestAuthOfEachKind(t *testing.T) {
	s := mixedState
	ids := map[int]int{1: 20, 2: 50, 3: 5, 4: 60, 5: 1}
	known := toldBy(s)
	reversed := slices.Clone(known)
	slices.Reverse(reversed)
	for _, list := range [][]impl.Event{known, reversed, slices.Concat(strayEvents(), known), slices.Concat(known, reversed, strayEvents())} {
		for sender := 1; sender <= 5; sender++ {
			want := slices.Sorted(slices.Values([]int{40, 10, ids[sender]}))
			for _, e := range []impl.Event{create(sender), power(sender, 0, 0, 0, 0, 0), name(sender), say(sender)} {
				wantAuth(t, list, s, e, want...)
				wantAuth(t, list, nil, e)
				wantAuth(t, list, []impl.Item{}, e)
				// A User counts of KindMember alone.
				e.User = 1 + sender%5
				wantAuth(t, list, s, e, want...)
			}
			for user := 1; user <= 5; user++ {
				for m := range 4 {
					want := slices.Compact(slices.Sorted(slices.Values([]int{40, 10, ids[sender], ids[user]})))
					wantAuth(t, list, s, member(sender, user, m), want...)
					wantAuth(t, list, nil, member(sender, user, m))
				}
			}
		}
	}
}

// everyKind are events of all Kinds by one user, of KindMember about each.
func everyKind(sender int) []impl.Event {
	list := []impl.Event{create(sender), power(sender, 0, 0, 0, 0, 0), name(sender), say(sender)}
	for user := 1; user <= 5; user++ {
		list = append(list, member(sender, user, user%4))
	}
	return list
}

// Some of the events of a state are in the list, some are not: those in the list alone count.
func TestAuthOfSomeInList(t *testing.T) {
	s := mixedState
	for _, c := range []struct {
		e    impl.Event
		ids  []int
		want []int
	}{
		{say(1), []int{40, 10, 20}, []int{10, 20, 40}}, {say(1), []int{10, 20}, []int{10, 20}}, {say(1), []int{40, 20}, []int{20, 40}}, {say(1), []int{10, 40}, []int{10, 40}},
		{say(1), []int{40}, []int{40}}, {say(1), []int{10}, []int{10}}, {say(1), []int{20}, []int{20}},
		// Those of other Keys do not count, though they are in the list.
		{say(1), []int{30, 50, 5, 60, 1}, nil}, {say(1), []int{30, 50, 5, 60, 1, 20}, []int{20}}, {name(5), []int{1, 30}, []int{1}},
		{member(2, 4, impl.Left), []int{60}, []int{60}}, {member(2, 4, impl.Left), []int{50}, []int{50}}, {member(2, 4, impl.Left), []int{60, 50}, []int{50, 60}}, {member(2, 4, impl.Left), []int{60, 40, 20}, []int{40, 60}},
		{member(3, 3, impl.Joined), []int{5, 1}, []int{5}}, {member(3, 3, impl.Joined), []int{10, 1}, []int{10}},
		// Ids near those of the state, and that of the event itself.
		{say(1), []int{39, 41, 9, 11, 19, 21, 0, -40, -10, -20}, nil}, {say(1), []int{9, 41, 20}, []int{20}},
	} {
		wantAuth(t, eventsOf(c.ids...), s, c.e, c.want...)
		wantAuth(t, slices.Concat(eventsOf(c.ids...), strayEvents(), eventsOf(c.ids...)), s, c.e, c.want...)
	}
	// All choices of events.
	for choice := range 256 {
		var ids []int
		for bit, item := range s {
			if choice>>bit&1 == 1 {
				ids = append(ids, item.Id)
			}
		}
		for sender := 1; sender <= 5; sender++ {
			for _, e := range everyKind(sender) {
				wantAuth(t, eventsOf(ids...), s, e, authByHand(eventsOf(ids...), s, e)...)
			}
		}
	}
}

// None of the events of a state is in the list: nothing is told.
func TestAuthOfNoneInList(t *testing.T) {
	for sender := 1; sender <= 5; sender++ {
		for _, e := range everyKind(sender) {
			for _, list := range [][]impl.Event{nil, {}, strayEvents(), {e}, eventsOf(2, 3, 7, 8, 41), make([]impl.Event, 3)} {
				for _, s := range [][]impl.Item{mixedState, itemsOf(rightKeys...), nil, {}} {
					wantAuth(t, list, s, e)
				}
			}
		}
	}
	// An event is not there for being the one that is asked about.
	s := []impl.Item{{Key: 1, Id: 9}, {Key: 11, Id: 9}}
	wantAuth(t, nil, s, member(1, 1, impl.Joined))
	wantAuth(t, []impl.Event{member(1, 1, impl.Joined)}, s, member(1, 1, impl.Joined), 9)
}

func TestAuthOfWhatIsThere(t *testing.T) {
	s := itemsOf(rightKeys...)
	list := toldBy(s)
	for _, state := range rightStates() {
		for _, e := range []impl.Event{member(1, 2, impl.Invited), member(4, 4, impl.Joined), member(5, 1, impl.Banned), name(3), create(2)} {
			var want []int
			for _, item := range state {
				of := item.Key == 1 || item.Key == 2 || item.Key == 10+e.Sender || e.Kind == impl.KindMember && item.Key == 10+e.User
				if of {
					want = append(want, item.Id)
				}
			}
			wantAuth(t, list, state, e, want...)
			wantAuth(t, nil, state, e)
		}
	}
	// Users that are none: nothing is told of them.
	for _, user := range []int{0, 6, 7, -1, 100, math.MinInt, math.MaxInt} {
		wantAuth(t, list, s, member(user, 2, impl.Left), 100, 101, 104)
		wantAuth(t, list, s, member(2, user, impl.Left), 100, 101, 104)
		wantAuth(t, list, s, member(user, user, impl.Left), 100, 101)
		wantAuth(t, list, s, say(user), 100, 101)
	}
	// 10 and -7 is the Key 3, whatever stands there.
	wantAuth(t, list, s, say(-7), 100, 101, 102)
	wantAuth(t, list, s, member(-9, -8, impl.Left), 100, 101)
	// Kinds that are none.
	for _, kind := range []int{0, 6, -1, math.MaxInt} {
		wantAuth(t, list, s, impl.Event{Id: 9, Kind: kind, Sender: 1, User: 2}, 100, 101, 103)
	}
}

func TestAuthOfAlikeIds(t *testing.T) {
	e := member(1, 2, impl.Invited)
	for _, c := range []struct {
		s    []impl.Item
		want []int
	}{
		{[]impl.Item{{Key: 1, Id: 7}, {Key: 2, Id: 7}}, []int{7}},
		{[]impl.Item{{Key: 1, Id: 7}, {Key: 2, Id: 3}, {Key: 11, Id: 7}, {Key: 12, Id: 3}}, []int{3, 7}},
		{[]impl.Item{{Key: 1, Id: 7}, {Key: 2, Id: 7}, {Key: 11, Id: 7}, {Key: 12, Id: 7}}, []int{7}},
		{[]impl.Item{{Key: 3, Id: 7}, {Key: 13, Id: 7}}, nil},
		// States that are not right.
		{[]impl.Item{{Key: 12, Id: 2}, {Key: 1, Id: 9}, {Key: 12, Id: 1}}, []int{2, 9}},
		{[]impl.Item{{Key: 2, Id: -4}, {Key: 1, Id: impl.MaxIndex + 1}}, []int{-4, impl.MaxIndex + 1}},
		{append(make([]impl.Item, 3000), impl.Item{Key: 11, Id: 8}), []int{8}},
	} {
		wantAuth(t, toldBy(c.s), c.s, e, c.want...)
		wantAuth(t, nil, c.s, e)
	}
	// The first of several Items with one Key counts, also where the list has the event of the second alone.
	twice := []impl.Item{{Key: 1, Id: 5}, {Key: 1, Id: 6}}
	wantAuth(t, eventsOf(5), twice, e, 5)
	wantAuth(t, eventsOf(6), twice, e)
	// A Key that no Item has is not told by an event of the Id 0.
	wantAuth(t, make([]impl.Event, 1), itemsOf(3), e)
}

func TestDrawnAuth(t *testing.T) {
	next := draws(118)
	count := map[string]int{}
	for range 20000 {
		s := slices.DeleteFunc(itemsOf(rightKeys...), func(impl.Item) bool { return next(4) == 0 })
		for at := range s {
			s[at].Id = 1 + next(12)
		}
		var list []impl.Event
		for range next(16) {
			e := drawnEvent(next)
			e.Id = 1 + next(12)
			list = append(list, e)
		}
		e := drawnEvent(next)
		want := authByHand(list, s, e)
		wantAuth(t, list, s, e, want...)
		wantAuth(t, shuffled(next, list), s, e, want...)
		switch all := len(authByHand(toldBy(s), s, e)); {
		case all == 0:
		case len(want) == 0:
			count["none"]++
		case len(want) < all:
			count["some"]++
		default:
			count["all"]++
		}
	}
	for _, what := range []string{"none", "some", "all"} {
		if count[what] < 1000 {
			t.Errorf("of what is drawn there is in the list: %v", count)
		}
	}
}

// wantHeavier: the first comes ahead of the second, and not the other way round.
func wantHeavier(t *testing.T, list []impl.Event, s []impl.Item, a, b impl.Event) {
	t.Helper()
	if !impl.Heavier(list, s, a, b) {
		t.Errorf("%s is not Heavier than %s, in %s", shownEvent(a), shownEvent(b), shownState(s))
	}
	if impl.Heavier(list, s, b, a) {
		t.Errorf("%s is Heavier than %s, in %s", shownEvent(b), shownEvent(a), shownState(s))
	}
}

// at is an event with this Id and Depth.
func at(id, depth int, e impl.Event) impl.Event {
	e.Id, e.Depth = id, depth
	return e
}

// KindPower, and who puts others out, comes ahead of all others, though all else speaks against it.
func TestHeavierByKind(t *testing.T) {
	list, s := place{maker: 1, levels: []int{100, 0, 50, 0, 0}}.set()
	ruling := []impl.Event{power(2, 0, 0, 0, 0, 0), power(2), member(2, 1, impl.Left), member(2, 1, impl.Banned), member(2, 3, impl.Left), member(0, 3, impl.Banned)}
	others := []impl.Event{
		create(1), name(1), say(1), member(1, 1, impl.Left), member(1, 1, impl.Banned), member(1, 1, impl.Invited), member(1, 1, impl.Joined), member(1, 2, impl.Invited), member(1, 2, impl.Joined),
		member(1, 2, 4), member(1, 2, -1), {Kind: 0, Sender: 1}, {Kind: 6, Sender: 1, User: 2, Member: impl.Banned}, {Kind: impl.KindName, Sender: 1, User: 2, Member: impl.Banned}, {Kind: impl.KindSay, Sender: 1, User: 2},
	}
	for _, a := range ruling {
		for _, b := range others {
			wantHeavier(t, list, s, at(9, 90, a), at(1, 1, b))
			wantHeavier(t, list, nil, at(9, 90, a), at(1, 1, b))
			wantHeavier(t, nil, nil, at(9, 90, a), at(9, 90, b))
		}
		// Two of these: by level, Depth and Id.
		for _, b := range ruling {
			wantHeavier(t, list, s, at(4, 4, a), at(5, 4, b))
			wantHeavier(t, list, s, at(5, 3, a), at(4, 4, b))
			b.Sender = 3
			if b.User == 3 {
				b.User = 1
			}
			wantHeavier(t, list, s, at(9, 9, b), at(1, 1, a))
		}
	}
	for _, a := range others {
		for _, b := range others {
			wantHeavier(t, list, s, at(4, 4, a), at(5, 4, b))
			wantHeavier(t, list, s, at(5, 3, a), at(4, 4, b))
		}
	}
}

func TestHeavierByLevelDepthAndId(t *testing.T) {
	list, s := place{maker: 5, levels: []int{50, 49, 50, 0, 100}}.set()
	for _, make := range []func(int) impl.Event{name, say, create, func(sender int) impl.Event { return power(sender, 0, 0, 0, 0, 0) }, func(sender int) impl.Event { return member(sender, sender, impl.Joined) }} {
		// The higher level, whatever the Depth and the Id are.
		for _, pair := range [][2]int{{5, 1}, {1, 2}, {3, 2}, {2, 4}, {5, 4}, {1, 0}, {5, 6}, {2, math.MaxInt}, {2, math.MinInt}} {
			wantHeavier(t, list, s, at(9, 90, make(pair[0])), at(1, 1, make(pair[1])))
			wantHeavier(t, list, s, at(1, 1, make(pair[0])), at(9, 90, make(pair[1])))
			wantHeavier(t, list, s, at(5, 5, make(pair[0])), at(5, 5, make(pair[1])))
		}
		// The same level (of users that are none it is 0): the lesser Depth, whatever the Id is; then the lesser Id.
		for _, pair := range [][2]int{{1, 3}, {3, 1}, {1, 1}, {4, 0}, {6, 4}, {-1, 7}} {
			a, b := make(pair[0]), make(pair[1])
			wantHeavier(t, list, s, at(9, 1, a), at(1, 2, b))
			wantHeavier(t, list, s, at(1, 1, a), at(9, 2, b))
			wantHeavier(t, list, s, at(5, 1, a), at(5, 2, b))
			wantHeavier(t, list, s, at(5, math.MinInt, a), at(5, math.MaxInt, b))
			wantHeavier(t, list, s, at(5, 3, a), at(6, 3, b))
			wantHeavier(t, list, s, at(math.MinInt, 3, a), at(math.MaxInt, 3, b))
			if impl.Heavier(list, s, at(5, 3, a), at(5, 3, b)) || impl.Heavier(list, s, at(5, 3, b), at(5, 3, a)) {
				t.Errorf("of %s and %s one is Heavier", shownEvent(a), shownEvent(b))
			}
		}
	}
	// Levels are those of the state: without a KindPower who made the room has 100, without anything nobody has any.
	wantHeavier(t, list, s, at(9, 9, name(1)), at(1, 1, name(2)))
	made := s[:1]
	wantHeavier(t, list, made, at(1, 1, name(2)), at(9, 9, name(1)))
	wantHeavier(t, list, made, at(9, 9, name(5)), at(1, 1, name(1)))
	wantHeavier(t, list, nil, at(1, 1, name(1)), at(9, 9, name(5)))
	wantHeavier(t, nil, s, at(1, 1, name(1)), at(9, 9, name(5)))
}

func TestDrawnHeavier(t *testing.T) {
	next := draws(111)
	heavier := map[bool]int{}
	for range 5000 {
		list, s := drawnPlace(next).set()
		a, b := drawnEvent(next), drawnEvent(next)
		for _, e := range []*impl.Event{&a, &b} {
			e.Id, e.Depth = next(4), next(3)
		}
		want := slices.Compare(weightByHand(list, s, a), weightByHand(list, s, b)) < 0
		if got := impl.Heavier(list, s, a, b); got != want {
			t.Fatalf("Heavier(.., %s, %s, %s) = %v", shownState(s), shownEvent(a), shownEvent(b), got)
		}
		heavier[want]++
	}
	if heavier[true] < 1500 || heavier[false] < 1500 {
		t.Errorf("of the pairs drawn %v are heavier", heavier)
	}
}

// wantOrder holds Order of the Ids in several orders, and with all of them twice.
func wantOrder(t *testing.T, list []impl.Event, s []impl.Item, ids []int, want ...int) {
	t.Helper()
	if byHand := orderByHand(list, s, ids); !slices.Equal(byHand, want) {
		t.Fatalf("the test is wrong: of %v it says %v, not %v", ids, want, byHand)
	}
	sorted := slices.Sorted(slices.Values(ids))
	backward := slices.Clone(sorted)
	slices.Reverse(backward)
	for _, order := range [][]int{ids, sorted, backward, slices.Concat(ids, ids), slices.Concat(sorted, backward)} {
		if got := impl.Order(list, s, order); !slices.Equal(got, want) {
			t.Errorf("Order(.., %s, %v) = %v; want %v", shownState(s), order, got, want)
		}
	}
}

// linked is an event of one who has no level, so that Depth and Id alone make it heavy, and its Prev.
func linked(id, depth int, prev ...int) impl.Event {
	return impl.Event{Id: id, Kind: impl.KindSay, Sender: 5, Prev: prev, Depth: depth}
}

func TestOrderOfFew(t *testing.T) {
	list := []impl.Event{linked(3, 0), linked(1, 0, 3), linked(7, 0, 9), linked(5, 0)}
	wantOrder(t, list, nil, nil)
	wantOrder(t, list, nil, []int{})
	wantOrder(t, nil, nil, []int{1, 2, 3})
	wantOrder(t, list, nil, []int{2, 4, 0, -1, 9, math.MaxInt, math.MinInt})
	wantOrder(t, list, nil, []int{5}, 5)
	wantOrder(t, list, nil, []int{5, 5, 5}, 5)
	// 1 is behind 3; nothing else is behind anything, as 9 is not in the list.
	wantOrder(t, list, nil, []int{1, 3}, 3, 1)
	wantOrder(t, list, nil, []int{1, 2, 5, 7, 3, 2, 1}, 3, 1, 5, 7)
	wantOrder(t, list, nil, []int{9, 7, 1}, 1, 7)
	// Of an Id that the list has twice the first event counts.
	wantOrder(t, []impl.Event{linked(1, 0), linked(2, 0), linked(1, 0, 2)}, nil, []int{1, 2}, 1, 2)
	wantOrder(t, []impl.Event{linked(1, 0, 2), linked(2, 0), linked(1, 0)}, nil, []int{1, 2}, 2, 1)
	wantOrder(t, []impl.Event{linked(1, 5), linked(2, 3), linked(1, 0)}, nil, []int{1, 2}, 2, 1)
	// Events that are not right are put in order, too.
	wantOrder(t, []impl.Event{{Id: 0}, {Id: -5, Prev: []int{0, 0, 0}}, {Id: impl.MaxIndex + 1, Prev: []int{-5, 7, -5, 8}}}, nil, []int{impl.MaxIndex + 1, -5, 0}, 0, -5, impl.MaxIndex+1)
}

func TestOrderThroughOthers(t *testing.T) {
	// 8 <- 6 <- 4 <- 2, and 7 behind 8 and 4.
	list := []impl.Event{linked(2, 0, 4), linked(4, 0, 6), linked(6, 0, 8), linked(8, 0), linked(7, 0, 4, 8), linked(9, 0)}
	wantOrder(t, list, nil, []int{2, 4, 6, 8}, 8, 6, 4, 2)
	wantOrder(t, list, nil, []int{2, 8}, 8, 2)
	wantOrder(t, list, nil, []int{2, 6}, 6, 2)
	wantOrder(t, list, nil, []int{7, 6}, 6, 7)
	wantOrder(t, list, nil, []int{2, 7, 8}, 8, 2, 7)
	wantOrder(t, list, nil, []int{2, 7, 6, 9}, 6, 2, 7, 9)
	wantOrder(t, list, nil, []int{2, 7}, 2, 7)
	// Without the event between them none is ahead of the other.
	for gone := 1; gone <= 2; gone++ {
		wantOrder(t, slices.Delete(slices.Clone(list), gone, gone+1), nil, []int{2, 8}, 2, 8)
	}
	// Two ways to one event, of which one is shorter.
	wantOrder(t, []impl.Event{linked(1, 0, 2, 5), linked(2, 0, 3), linked(3, 0, 4), linked(4, 0), linked(5, 0, 4)}, nil, []int{1, 4}, 4, 1)
	wantOrder(t, []impl.Event{linked(1, 0, 2, 5), linked(2, 0, 3), linked(3, 0, 4), linked(4, 0), linked(5, 0, 4)}, nil, []int{1, 3, 4, 5}, 4, 3, 5, 1)
}

func TestOrderByWeight(t *testing.T) {
	list, s := place{maker: 1, levels: []int{100, 50, 0, 0, 0}}.set()
	behind := func(e impl.Event, prev ...int) impl.Event {
		e.Prev = prev
		return e
	}
	list = append(list,
		at(21, 1, behind(say(3), 99)), at(22, 2, behind(say(2), 99)), at(23, 3, behind(say(1), 99)), at(24, 4, behind(power(3, 0, 0, 0, 0, 0), 99)), at(25, 5, behind(member(2, 3, impl.Banned), 99)),
		at(26, 2, behind(say(3), 99)), at(27, 1, behind(name(3), 99)), at(28, 9, behind(power(1, 0, 0, 0, 0, 0), 21)), at(29, 0, behind(say(3), 23, 24)))
	wantOrder(t, list, s, []int{21, 22, 23, 24, 25, 26, 27}, 25, 24, 23, 22, 21, 27, 26)
	// Levels are those of the state that is handed in.
	wantOrder(t, list, nil, []int{21, 22, 23, 24, 25, 26, 27}, 24, 25, 21, 27, 22, 26, 23)
	wantOrder(t, list, s[:1], []int{21, 22, 23, 24, 25, 26, 27}, 24, 25, 23, 21, 27, 22, 26)
	// What is heavy waits for what is light, and comes at once behind it.
	wantOrder(t, list, s, []int{28, 21, 22, 23}, 23, 22, 21, 28)
	wantOrder(t, list, s, []int{28, 21, 27, 26}, 21, 28, 27, 26)
	wantOrder(t, list, s, []int{28, 22}, 28, 22)
	// It waits for both.
	wantOrder(t, list, s, []int{29, 21, 22, 23, 24}, 24, 23, 22, 29, 21)
	wantOrder(t, list, s, []int{29, 21, 24}, 24, 29, 21)
}

func TestOrderOfThoseThatWait(t *testing.T) {
	// 1 and 2 name each other; 3 is behind 2, 4 behind 3; 5 is ahead of 1; 6 is alone.
	list := []impl.Event{linked(1, 0, 2, 5), linked(2, 0, 1), linked(3, 0, 2), linked(4, 0, 3), linked(5, 0), linked(6, 0)}
	wantOrder(t, list, nil, []int{1, 2})
	wantOrder(t, list, nil, []int{1, 2, 3, 4, 5, 6}, 5, 6)
	wantOrder(t, list, nil, []int{4, 2, 6}, 6)
	// One of them waits for itself, by way of the other one.
	wantOrder(t, list, nil, []int{1})
	wantOrder(t, list, nil, []int{2, 5}, 5)
	wantOrder(t, list, nil, []int{3, 1})
	// Those that wait are not among the Ids: nothing that is there keeps the others.
	wantOrder(t, list, nil, []int{4, 3, 6}, 3, 4, 6)
	wantOrder(t, list, nil, []int{4, 5}, 5, 4)
	wantOrder(t, list, nil, []int{3}, 3)
	// One that names itself.
	list = []impl.Event{linked(1, 0, 1), linked(2, 0, 1), linked(3, 0, 2), linked(4, 0), linked(5, 0, 4, 5)}
	wantOrder(t, list, nil, []int{1})
	wantOrder(t, list, nil, []int{5, 4}, 4)
	wantOrder(t, list, nil, []int{1, 2, 3, 4, 5}, 4)
	wantOrder(t, list, nil, []int{2, 3, 4}, 2, 3, 4)
	// A ring of five, of which any are handed in, and one behind it.
	list = []impl.Event{linked(1, 0, 2), linked(2, 0, 3), linked(3, 0, 4), linked(4, 0, 5), linked(5, 0, 1), linked(6, 0, 3)}
	for choice := 1; choice < 32; choice++ {
		ids := []int{6}
		for bit := range 5 {
			if choice>>bit&1 == 1 {
				ids = append(ids, bit+1)
			}
		}
		wantOrder(t, list, nil, ids)
	}
	wantOrder(t, list, nil, []int{6}, 6)
}

// Many that can stand next at once: in order of their weights.
func TestOrderOfMany(t *testing.T) {
	next := draws(112)
	for _, size := range []int{2, 3, 4, 7, 8, 9, 31, 32, 33, 200} {
		list, s := place{maker: 1, levels: []int{10, 20, 30, 20, 10}}.set()
		var weights [][]int
		var ids []int
		for range size {
			e := drawnEvent(next)
			e.Id, e.Depth, e.Prev = 1000+len(ids), next(4), nil
			list, ids = append(list, e), append(ids, e.Id)
			weights = append(weights, weightByHand(list, s, e))
		}
		slices.SortFunc(weights, slices.Compare)
		var want []int
		for _, weight := range weights {
			want = append(want, weight[3])
		}
		for range 5 {
			ids = shuffled(next, ids)
			if got := impl.Order(list, s, ids); !slices.Equal(got, want) {
				t.Fatalf("Order of %v is %v; want %v", ids, got, want)
			}
		}
	}
}

// drawnWeb are events that name others; rings are in it where back is true.
func drawnWeb(next func(int) int, back bool) (list []impl.Event, ids []int) {
	size := 1 + next(9)
	for _, id := range shuffled(next, []int{1, 2, 3, 4, 5, 6, 7, 8, 9})[:size] {
		e := drawnEvent(next)
		e.Id, e.Depth, e.Prev = id, next(3), nil
		for range next(3) {
			if back {
				e.Prev = append(e.Prev, 1+next(10))
			} else if len(list) > 0 {
				e.Prev = append(e.Prev, list[next(len(list))].Id)
			}
		}
		list = append(list, e)
	}
	for id := 1; id <= 10; id++ {
		if next(5) > 1 {
			ids = append(ids, id)
		}
	}
	return shuffled(next, list), ids
}

func TestDrawnOrders(t *testing.T) {
	next := draws(113)
	whole := map[bool]int{}
	for round := range 6000 {
		list, ids := drawnWeb(next, round%2 == 0)
		events, s := drawnPlace(next).set()
		list = append(list, events...)
		want := orderByHand(list, s, ids)
		wantOrder(t, list, s, ids, want...)
		if got := impl.Order(shuffled(next, list), s, shuffled(next, ids)); !slices.Equal(got, want) {
			t.Fatalf("Order of %v is %v; want %v", ids, got, want)
		}
		known := slices.DeleteFunc(slices.Clone(ids), func(id int) bool {
			return !slices.ContainsFunc(list, func(e impl.Event) bool { return e.Id == id })
		})
		whole[len(known) == len(want)]++
	}
	if whole[true] < 2000 || whole[false] < 1000 {
		t.Errorf("of the orders drawn %v have all", whole)
	}
}

// handRoom is a room with several ends, its Depths and States worked out by hand: user 1 makes it, asks 2 in and gives 2 a level of 50; then several things happen behind the event 5.
func handRoom() (list []impl.Event, states map[int][]impl.Item) {
	step := func(id, depth int, e impl.Event, prev ...int) {
		e = at(id, depth, e)
		e.Prev = prev
		list = append(list, e)
	}
	step(1, 0, create(1))
	step(2, 1, member(1, 1, impl.Joined), 1)
	step(3, 2, member(1, 2, impl.Invited), 2)
	step(4, 3, member(2, 2, impl.Joined), 3)
	step(5, 4, power(1, 100, 50, 0, 0, 0), 4)
	step(6, 5, member(1, 2, impl.Banned), 5)
	step(7, 5, name(2), 5)
	step(8, 5, member(2, 3, impl.Invited), 5)
	step(9, 5, name(1), 5)
	step(10, 6, member(3, 3, impl.Joined), 8)
	step(11, 5, power(1, 100, 0, 0, 0, 0), 5)
	step(12, 5, power(2, 100, 50, 50, 0, 0), 5)
	step(13, 6, name(2), 9)
	return list, map[int][]impl.Item{
		0:  nil,
		1:  {{Key: 1, Id: 1}},
		2:  {{Key: 1, Id: 1}, {Key: 11, Id: 2}},
		3:  {{Key: 1, Id: 1}, {Key: 11, Id: 2}, {Key: 12, Id: 3}},
		4:  {{Key: 1, Id: 1}, {Key: 11, Id: 2}, {Key: 12, Id: 4}},
		5:  {{Key: 1, Id: 1}, {Key: 2, Id: 5}, {Key: 11, Id: 2}, {Key: 12, Id: 4}},
		6:  {{Key: 1, Id: 1}, {Key: 2, Id: 5}, {Key: 11, Id: 2}, {Key: 12, Id: 6}},
		7:  {{Key: 1, Id: 1}, {Key: 2, Id: 5}, {Key: 3, Id: 7}, {Key: 11, Id: 2}, {Key: 12, Id: 4}},
		8:  {{Key: 1, Id: 1}, {Key: 2, Id: 5}, {Key: 11, Id: 2}, {Key: 12, Id: 4}, {Key: 13, Id: 8}},
		9:  {{Key: 1, Id: 1}, {Key: 2, Id: 5}, {Key: 3, Id: 9}, {Key: 11, Id: 2}, {Key: 12, Id: 4}},
		10: {{Key: 1, Id: 1}, {Key: 2, Id: 5}, {Key: 11, Id: 2}, {Key: 12, Id: 4}, {Key: 13, Id: 10}},
		11: {{Key: 1, Id: 1}, {Key: 2, Id: 11}, {Key: 11, Id: 2}, {Key: 12, Id: 4}},
		12: {{Key: 1, Id: 1}, {Key: 2, Id: 12}, {Key: 11, Id: 2}, {Key: 12, Id: 4}},
		13: {{Key: 1, Id: 1}, {Key: 2, Id: 5}, {Key: 3, Id: 13}, {Key: 11, Id: 2}, {Key: 12, Id: 4}},
	}
}

// wantResolve holds Resolve of the states in each order, also with any of them twice, and of the list backward: promise 11.
func wantResolve(t *testing.T, list []impl.Event, states [][]impl.Item, want []impl.Item) {
	t.Helper()
	if byHand := resolveByHand(list, states); !slices.Equal(byHand, want) {
		t.Fatalf("the test is wrong: of%s it says %s, not %s", shownStates(states), shownState(want), shownState(byHand))
	}
	backward := slices.Clone(list)
	slices.Reverse(backward)
	sets := [][][]impl.Item{states}
	for _, s := range states {
		sets = append(sets, append(slices.Clone(states), s))
	}
	for _, set := range sets {
		for _, order := range inEachOrder(set) {
			if got := impl.Resolve(list, order); !slices.Equal(got, want) {
				t.Fatalf("Resolve of%s = %s; want %s", shownStates(order), shownState(got), shownState(want))
			}
			if got := impl.Resolve(backward, order); !slices.Equal(got, want) {
				t.Fatalf("Resolve of%s with the events backward = %s; want %s", shownStates(order), shownState(got), shownState(want))
			}
		}
	}
}

func TestResolveOfARoom(t *testing.T) {
	list, states := handRoom()
	for _, c := range []struct {
		of   []int
		want []impl.Item
	}{
		// Who is put out does nothing more, whichever of both came first: 2 neither gives a name nor asks 3 in.
		{[]int{6, 7}, states[6]}, {[]int{6, 8}, states[6]}, {[]int{6, 7, 8}, states[6]}, {[]int{6, 10}, states[6]}, {[]int{6, 9}, []impl.Item{{Key: 1, Id: 1}, {Key: 2, Id: 5}, {Key: 3, Id: 9}, {Key: 11, Id: 2}, {Key: 12, Id: 6}}},
		// Two Keys that clash, and nothing is in the way of either.
		{[]int{7, 8}, []impl.Item{{Key: 1, Id: 1}, {Key: 2, Id: 5}, {Key: 3, Id: 7}, {Key: 11, Id: 2}, {Key: 12, Id: 4}, {Key: 13, Id: 8}}},
		{[]int{9, 10, 8}, []impl.Item{{Key: 1, Id: 1}, {Key: 2, Id: 5}, {Key: 3, Id: 9}, {Key: 11, Id: 2}, {Key: 12, Id: 4}, {Key: 13, Id: 10}}},
		// Names: the higher level goes first, so that the lower one is the last to tell; what is behind another one tells behind it; else the lesser Depth goes first.
		{[]int{7, 9}, states[7]}, {[]int{9, 13}, states[13]}, {[]int{7, 13}, states[13]}, {[]int{7, 9, 13}, states[13]}, {[]int{5, 9}, states[9]}, {[]int{5, 7}, states[7]},
		// 3 comes in only behind being asked, which must be in the clash or agreed on.
		{[]int{8, 10}, states[10]}, {[]int{5, 8, 10}, states[10]}, {[]int{5, 10}, states[5]}, {[]int{5, 8}, states[8]}, {[]int{9, 10}, states[9]},
		// Levels: 1 has more than 2 by what all agree on, and takes 2's level away; what 2 did with it does not count.
		{[]int{11, 12}, states[11]}, {[]int{5, 11}, states[11]}, {[]int{5, 12}, states[12]}, {[]int{5, 11, 12}, states[11]}, {[]int{11, 7}, states[11]},
		{[]int{12, 7}, []impl.Item{{Key: 1, Id: 1}, {Key: 2, Id: 12}, {Key: 3, Id: 7}, {Key: 11, Id: 2}, {Key: 12, Id: 4}}},
		// From the beginning on.
		{[]int{0, 1}, states[1]}, {[]int{0, 2}, states[2]}, {[]int{1, 2}, states[2]}, {[]int{0, 1, 2}, states[2]}, {[]int{2, 3}, states[3]}, {[]int{2, 4}, states[2]}, {[]int{3, 4}, states[4]}, {[]int{2, 3, 4}, states[4]}, {[]int{2, 3, 5}, states[5]},
		{[]int{2, 5}, []impl.Item{{Key: 1, Id: 1}, {Key: 2, Id: 5}, {Key: 11, Id: 2}}},
		{[]int{0, 5}, []impl.Item{{Key: 1, Id: 1}, {Key: 2, Id: 5}, {Key: 11, Id: 2}}}, {[]int{0, 3, 5}, states[5]}, {[]int{1, 3, 5, 7}, states[7]},
	} {
		var of [][]impl.Item
		for _, id := range c.of {
			of = append(of, states[id])
		}
		wantResolve(t, list, of, c.want)
	}
	for id, s := range states {
		for count := 1; count <= 4; count++ {
			wantResolve(t, list, slices.Repeat([][]impl.Item{s}, count), s)
			wantResolve(t, nil, slices.Repeat([][]impl.Item{s}, count), s)
		}
		if id > 0 && !impl.StateOk(s) {
			t.Errorf("the test is wrong: the state of %d is not right", id)
		}
	}
	wantResolve(t, list, nil, nil)
	wantResolve(t, list, [][]impl.Item{}, nil)
	wantResolve(t, list, [][]impl.Item{nil}, nil)
	wantResolve(t, list, [][]impl.Item{{}, nil, {}}, nil)
}

// Events that are not there, that are not right, or that never can stand, tell nothing.
func TestResolveWithoutEvents(t *testing.T) {
	list, states := handRoom()
	named := func(id int) []impl.Item { return impl.Put(states[5], 3, id) }
	for _, c := range []struct {
		extra []impl.Event
		of    [][]impl.Item
		want  []impl.Item
	}{
		{nil, [][]impl.Item{states[5], named(99)}, states[5]},
		{nil, [][]impl.Item{states[7], named(99)}, states[7]},
		{nil, [][]impl.Item{named(98), named(99)}, states[5]},
		{[]impl.Event{at(99, 5, name(1))}, [][]impl.Item{states[5], named(99)}, named(99)},
		// Not right, though one who may sent it.
		{[]impl.Event{at(99, -1, name(1))}, [][]impl.Item{states[5], named(99)}, states[5]},
		{[]impl.Event{{Id: 99, Kind: impl.KindName, Sender: 1, Depth: 5}}, [][]impl.Item{states[7], named(99)}, states[7]},
		// By one who may not.
		{[]impl.Event{at(99, 5, name(3))}, [][]impl.Item{states[5], named(99)}, states[5]},
		{[]impl.Event{at(99, 5, name(3))}, [][]impl.Item{states[9], named(99)}, states[9]},
		// Two that wait for one another.
		{[]impl.Event{{Id: 98, Kind: impl.KindName, Sender: 1, Prev: []int{99}}, {Id: 99, Kind: impl.KindName, Sender: 1, Prev: []int{98}}}, [][]impl.Item{named(98), named(99)}, states[5]},
		{[]impl.Event{{Id: 98, Kind: impl.KindName, Sender: 1, Prev: []int{99}}, {Id: 99, Kind: impl.KindName, Sender: 1, Prev: []int{98}}}, [][]impl.Item{named(98), named(99), states[7]}, states[7]},
		// What is said tells no Key, though a state has it for one; and an event tells its own Key, whichever a state has it for.
		{[]impl.Event{at(99, 5, say(1))}, [][]impl.Item{states[5], named(99)}, states[5]},
		{[]impl.Event{at(99, 5, member(1, 4, impl.Invited))}, [][]impl.Item{states[5], named(99)}, impl.Put(states[5], 14, 99)},
		// One Id for two Keys.
		{[]impl.Event{at(99, 5, name(1))}, [][]impl.Item{states[5], impl.Put(named(99), 15, 99)}, named(99)},
		// Two that make the room: the first one does, by Depth and Id; what is told by the other's maker does not count.
		{[]impl.Event{at(99, 0, create(2))}, [][]impl.Item{{{Key: 1, Id: 1}}, {{Key: 1, Id: 99}}}, states[1]},
		{[]impl.Event{at(99, 0, create(2)), {Id: 98, Kind: impl.KindMember, Sender: 2, User: 2, Member: impl.Joined, Prev: []int{99}, Depth: 1}}, [][]impl.Item{states[2], {{Key: 1, Id: 99}, {Key: 12, Id: 98}}}, states[2]},
	} {
		wantResolve(t, slices.Concat(list, c.extra), c.of, c.want)
	}
	// Without any event all that they agree on is left.
	for _, pair := range [][2]int{{6, 7}, {7, 8}, {8, 10}, {2, 5}, {11, 12}, {0, 5}} {
		of := [][]impl.Item{states[pair[0]], states[pair[1]]}
		wantResolve(t, nil, of, agreedByHand(of))
	}
}

// One wrong state stays as it is; of several the first Items of their Keys count, and nothing is told where what they agree on is not right.
func TestResolveOfWrongStates(t *testing.T) {
	list, states := handRoom()
	for _, s := range wrongStates() {
		for count := 1; count <= 3; count++ {
			got := impl.Resolve(list, slices.Repeat([][]impl.Item{s}, count))
			if !slices.Equal(got, s) {
				t.Errorf("Resolve of %d times %s = %s", count, shownState(s), shownState(got))
			}
		}
		if len(s) < 100 {
			of := [][]impl.Item{s, states[5], states[7]}
			wantResolve(t, list, of, resolveByHand(list, of))
		}
	}
	with := func(s []impl.Item, more ...impl.Item) []impl.Item { return append(slices.Clone(s), more...) }
	wrong := impl.Item{Key: 16, Id: 3}
	wantResolve(t, list, [][]impl.Item{with(states[5], wrong), with(states[7], wrong)}, with(states[5], wrong))
	wantResolve(t, list, [][]impl.Item{with(states[5], wrong), states[7]}, states[7])
	wantResolve(t, list, [][]impl.Item{with(states[5], states[7]...), states[7]}, states[7])
	wantResolve(t, list, [][]impl.Item{with(states[7], impl.Item{Key: 3, Id: 9}), states[5]}, states[7])
	wantResolve(t, list, [][]impl.Item{{{Key: 12, Id: 4}, {Key: 11, Id: 2}, {Key: 2, Id: 5}, {Key: 1, Id: 1}}, states[7]}, states[7])
}

// room is one that a test lets happen: what is known of it, and the state behind each event.
type room struct {
	list   []impl.Event
	states [][]impl.Item
}

func (r *room) add(e impl.Event, from ...int) {
	var of [][]impl.Item
	for _, place := range from {
		of = append(of, r.states[place])
		e.Prev = append(e.Prev, r.list[place].Id)
		e.Depth = max(e.Depth, r.list[place].Depth+1)
	}
	slices.Sort(e.Prev)
	s := resolveByHand(r.list, of)
	if impl.Allowed(r.list, s, e) {
		s = putStateByHand(s, impl.KeyOf(e), e.Id)
	}
	r.list, r.states = append(r.list, e), append(r.states, s)
}

// drawnRoom has three users who come in, and then what is drawn, behind events of which most are near the end; its Ids are not in order.
func drawnRoom(next func(int) int) *room {
	r := &room{}
	var ids []int
	for id := 1; id <= 60; id++ {
		ids = append(ids, id)
	}
	ids = shuffled(next, ids)
	add := func(e impl.Event, from ...int) {
		e.Id, e.Prev, e.Depth = ids[len(r.list)], nil, 0
		r.add(e, from...)
	}
	add(create(1))
	for at, e := range []impl.Event{member(1, 1, impl.Joined), member(1, 2, impl.Invited), member(2, 2, impl.Joined), member(1, 3, impl.Invited), member(3, 3, impl.Joined), power(1, 100, 60, []int{0, 50, 60}[next(3)], 0, 0)} {
		add(e, at)
	}
	for range 6 + next(10) {
		moves := everyMove(100, []int{0, 50, 60}[next(3)], []int{0, 50, 60}[next(3)], next(2)*60, 0)
		var from []int
		for range 1 + next(3) {
			from = append(from, max(len(r.list)-1-next(8), 6))
		}
		slices.Sort(from)
		e := moves[next(len(moves))]
		if next(3) == 0 {
			e.Sender = 1 + next(2)
		}
		add(e, slices.Compact(from)...)
	}
	return r
}

// Promise 11 of rooms that are drawn: in whatever order the states stand, and whatever is known first; of the same ones it is that one; what all agree on stays.
func TestDrawnRooms(t *testing.T) {
	next := draws(114)
	count := map[string]int{}
	for range 1500 {
		r := drawnRoom(next)
		var of [][]impl.Item
		for range 2 + next(2) {
			of = append(of, r.states[max(len(r.states)-1-next(10), 0)])
		}
		want := resolveByHand(r.list, of)
		wantResolve(t, r.list, of, want)
		wantResolve(t, shuffled(next, r.list), of, want)
		for _, item := range impl.Agreed(of) {
			wantAt(t, want, item.Key, item.Id)
		}
		if !impl.StateOk(want) {
			t.Fatalf("Resolve of%s is not right: %s", shownStates(of), shownState(want))
		}
		clash := len(impl.Clash(of))
		count[fmt.Sprint("clash ", min(clash, 3))]++
		if len(want) < len(impl.Agreed(of))+clash {
			count["not all told"]++
		}
		if clash > 0 && !slices.ContainsFunc(of, func(s []impl.Item) bool { return slices.Equal(s, want) }) {
			count["none of them"]++
		}
	}
	for _, what := range []string{"clash 0", "clash 1", "clash 2", "clash 3", "not all told", "none of them"} {
		if count[what] < 50 {
			t.Errorf("of the rooms drawn there are %v", count)
		}
	}
}

// Events and states that are drawn apart from each other, so that a state has any event for any Key.
func TestDrawnResolves(t *testing.T) {
	next := draws(115)
	for round := range 4000 {
		r := drawnRoom(next)
		web, _ := drawnWeb(next, round%2 == 0)
		list := shuffled(next, slices.Concat(r.list, web))
		var of [][]impl.Item
		for range 1 + next(3) {
			s := slices.Clone(r.states[next(len(r.states))])
			for range next(4) {
				if len(s) > 0 {
					s[next(len(s))].Id = list[next(len(list))].Id
				}
			}
			of = append(of, s)
		}
		want := resolveByHand(list, of)
		for range 4 {
			if got := impl.Resolve(list, shuffled(next, of)); !slices.Equal(got, want) {
				t.Fatalf("Resolve of%s = %s; want %s", shownStates(of), shownState(got), shownState(want))
			}
		}
	}
}

// roomyStates are copies with room behind every list, in which something stands.
func roomyStates(states [][]impl.Item) [][]impl.Item {
	list := make([][]impl.Item, 0, len(states)+2)
	for _, s := range states {
		list = append(list, append(slices.Clone(s), itemsOf(16, 17, 18)...)[:len(s)])
	}
	list = append(list, itemsOf(1), itemsOf(2))
	return list[:len(states)]
}

func roomyInts(list []int) []int { return append(slices.Clone(list), 71, 72, 73)[:len(list)] }

func roomyEvents(events []impl.Event) []impl.Event {
	var list []impl.Event
	for _, e := range events {
		e.Prev, e.Levels = roomyInts(e.Prev), roomyInts(e.Levels)
		list = append(list, e)
	}
	return append(list, say(1), say(2))[:len(events)]
}

// allOf shows lists with all that stands behind them.
func allOf(list []impl.Event, states [][]impl.Item, ids []int) string {
	text := fmt.Sprint(ids[:cap(ids)])
	for _, e := range list[:len(list)+2] {
		text += fmt.Sprint(e, e.Prev[:cap(e.Prev)], e.Levels[:cap(e.Levels)])
	}
	for _, s := range states[:len(states)+2] {
		text += fmt.Sprint(s[:cap(s)])
	}
	return text
}

// Nothing is written into an argument or behind it, and no answer shares memory with one.
func TestResolvesAreNew(t *testing.T) {
	next := draws(116)
	for range 300 {
		r := drawnRoom(next)
		var of [][]impl.Item
		for range 1 + next(3) {
			of = append(of, r.states[next(len(r.states))])
		}
		list, states := roomyEvents(r.list), roomyStates(of)
		ids := roomyInts([]int{list[len(list)-1].Id, list[3].Id, list[8].Id, 99, list[3].Id})
		s, e := states[0], list[len(list)-1]
		before := allOf(list, states, ids)
		items := func() [][]impl.Item {
			return [][]impl.Item{impl.Agreed(states), impl.Agreed(states[:1]), impl.Resolve(list, states), impl.Resolve(list, states[:1]), impl.Resolve(list, [][]impl.Item{s, s})}
		}
		numbers := func() [][]int {
			return [][]int{impl.Clash(states), impl.AuthOf(list, s, e), impl.Order(list, s, ids), impl.Order(list, s, ids[:1])}
		}
		impl.Heavier(list, s, e, list[3])
		first, firstNumbers, second, secondNumbers := items(), numbers(), items(), numbers()
		want := fmt.Sprint(second, secondNumbers)
		if allOf(list, states, ids) != before {
			t.Fatal("written into an argument, or behind it")
		}
		for _, answer := range first {
			clear(answer[:cap(answer)])
		}
		for _, answer := range firstNumbers {
			clear(answer[:cap(answer)])
		}
		if allOf(list, states, ids) != before {
			t.Fatal("an answer shares memory with an argument")
		}
		if fmt.Sprint(second, secondNumbers) != want {
			t.Fatal("two answers share memory")
		}
		for _, s := range states {
			clear(s)
		}
		clear(ids)
		if fmt.Sprint(second, secondNumbers) != want {
			t.Fatal("an answer changes with an argument")
		}
	}
}

// Whatever comes, all functions answer; and the same once more.
func TestResolvesAnswerAtAll(t *testing.T) {
	next := draws(117)
	numbers := slices.Concat([]int{1, 2, 3, 4, 5, 10, 11, 15}, wrongUsers, wrongIndex)
	drawn := func() int { return numbers[next(len(numbers))] }
	for range 10000 {
		var list []impl.Event
		for range next(8) {
			e := drawnEvent(next)
			e.Id = drawn()
			for range next(4) {
				e.Prev = append(e.Prev, drawn())
			}
			list = append(list, e)
		}
		var states [][]impl.Item
		for range 1 + next(4) {
			var s []impl.Item
			for range next(10) {
				s = append(s, impl.Item{Key: drawn(), Id: drawn()})
			}
			states = append(states, s)
		}
		var ids []int
		for range next(10) {
			ids = append(ids, drawn())
		}
		s, a, b := states[0], drawnEvent(next), drawnEvent(next)
		answers := func() string {
			return fmt.Sprint(impl.Clash(states), impl.Agreed(states), impl.AuthOf(list, s, a), impl.Heavier(list, s, a, b), impl.Order(list, s, ids), impl.Resolve(list, states))
		}
		if first, second := answers(), answers(); first != second {
			t.Fatalf("two answers to the same: %s and %s", first, second)
		}
		if got := impl.Resolve(list, states); !slices.Equal(got, resolveByHand(list, states)) {
			t.Fatalf("Resolve of%s = %s", shownStates(states), shownState(got))
		}
	}
}

// Long lists: one behind the other, all in one ring, many behind the same many, and one that names all of them, itself too.
func TestResolvesOfLongLists(t *testing.T) {
	const size = 3000
	var chain, ring, fan []impl.Event
	var ids, crowd []int
	var long, other []impl.Item
	for n := range size {
		id := size - n
		ids = append(ids, id)
		chain = append(chain, linked(id, 0, id+1))
		ring = append(ring, linked(id, 0, id%size+1))
		if n < 600 {
			crowd = append(crowd, n)
		}
		long, other = append(long, impl.Item{Key: n, Id: n}), append(other, impl.Item{Key: n, Id: n + 1})
	}
	for n := range size {
		if n < 600 {
			fan = append(fan, linked(n, 0))
		} else {
			fan = append(fan, linked(n, 0, crowd...))
		}
	}
	fan = append(fan, linked(size, 0, ids...))
	if got := impl.Order(chain, nil, slices.Sorted(slices.Values(ids))); !slices.Equal(got, ids) {
		t.Errorf("Order of a long chain has %d Ids", len(got))
	}
	if got := impl.Order(chain, nil, []int{1, size}); !slices.Equal(got, []int{size, 1}) {
		t.Errorf("Order of the two ends of a long chain is %v", got)
	}
	if got := impl.Order(ring, nil, ids); len(got) != 0 {
		t.Errorf("Order of a long ring has %d Ids", len(got))
	}
	if got := impl.Order(fan, nil, ids); len(got) != size-1 || got[0] != 1 || got[size-2] != size-1 {
		t.Errorf("Order of a wide fan has %d Ids", len(got))
	}
	for _, list := range [][]impl.Event{chain, ring, fan} {
		if got := impl.Resolve(list, [][]impl.Item{long, other}); len(got) != 0 {
			t.Errorf("Resolve of long states is %s", shownState(got))
		}
	}
}
