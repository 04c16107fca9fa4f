package tests

import (
	"cmp"
	"math"
	"slices"
	"strconv"
	"strings"
	"testing"

	"loop.example/g01920/impl"
)

func TestBrokerExampleOfTheDocument(t *testing.T) {
	if impl.MaxClients != 5 || impl.MaxPool != 120 {
		t.Error("the limits of a broker are not those of the document")
	}
	broker := added(t, added(t, newBroker(t, 20), 30, 1), 10, 5)
	expectBroker(t, "AddClient", broker, brokerOf(t, 20, 2, "0.30.1 1.10.5", ""))
	expectGrants(t, broker, 10, 10)
}

func TestBrokerWithoutClients(t *testing.T) {
	for pool := 8; pool <= 120; pool++ {
		for _, next := range []int{0, 1, 2, 999, 1000} {
			for _, none := range [][]impl.Client{nil, {}, make([]impl.Client, 0, 3)} {
				broker := impl.Broker{Pool: pool, NextID: next, Active: none, Waiting: none}
				expectValidBroker(t, broker, true)
				expectBroker(t, "the broker", broker, impl.Broker{Pool: pool, NextID: next})
				expectGrants(t, broker)
				for _, id := range append(idsOutOfRange(), 0, 1, next-1, next, 999, 1000) {
					expectNoClient(t, broker, id)
				}
				if next == 1000 {
					expectNotAdded(t, broker, 8, 0)
					continue
				}
				want := impl.Broker{Pool: pool, NextID: next + 1, Active: []impl.Client{{ID: next, Requested: 8}}}
				expectBroker(t, "AddClient", added(t, broker, 8, 0), want)
				expectBroker(t, "RemoveClient", removed(t, want, next), impl.Broker{Pool: pool, NextID: next + 1})
			}
		}
	}
}

func TestNewBrokerOfEveryPool(t *testing.T) {
	for pool := 8; pool <= 120; pool++ {
		broker := newBroker(t, pool)
		expectBroker(t, "NewBroker", broker, impl.Broker{Pool: pool})
		expectValidBroker(t, broker, true)
	}
}

func TestNewBrokerOfNoPool(t *testing.T) {
	for _, pool := range poolsOutOfRange() {
		broker, ok := impl.NewBroker(pool)
		expectSuccess(t, "NewBroker", ok, false)
		expectBroker(t, "NewBroker", broker, impl.Broker{})
	}
}

func TestBrokersThatAreValid(t *testing.T) {
	for _, broker := range validBrokers(t) {
		expectValidBroker(t, broker, true)
		expectValidBroker(t, copyBroker(broker), true)
	}
}

func TestBrokersThatAreNotValid(t *testing.T) {
	for _, broker := range invalidBrokers(t) {
		expectValidBroker(t, broker, false)
		if grants := impl.ComputeGrants(broker); len(grants) > 0 {
			t.Errorf("the grants of %+v are %v", broker, grants)
		}
		expectNotAdded(t, broker, 8, 0)
		expectNotAdded(t, broker, 20, 5)
		for _, id := range append(idsOutOfRange(), 0, 1, 2, 3, 4, 5, 999, 1000) {
			expectNoClient(t, broker, id)
		}
	}
}

// An ID is valid here if a list of all IDs that were given out has it, and
// IDs are ascending if sorting them and leaving out repeated ones changes
// nothing.
func TestIsValidBrokerOfEveryShortListOfIDs(t *testing.T) {
	lists := placesUpTo(3, 5)
	for _, next := range []int{0, 1, 2, 3, 4} {
		given := numbersFrom(0, next-1)
		areValid := func(ids []int) bool {
			ascending := slices.Compact(slices.Sorted(slices.Values(ids)))
			return slices.Equal(ids, ascending) && !slices.ContainsFunc(ids, func(id int) bool { return !given[id] })
		}
		for _, active := range lists {
			for _, waiting := range lists {
				all := slices.Concat(active, waiting)
				areApart := len(slices.Compact(slices.Sorted(slices.Values(all)))) == len(all)
				for capacity := 1; capacity <= 3; capacity++ {
					want := areValid(active) && areValid(waiting) && areApart && len(active) <= capacity &&
						(len(waiting) == 0 || len(active) == capacity)
					broker := impl.Broker{Pool: 8 * capacity, NextID: next, Active: clientsOfIDs(active), Waiting: clientsOfIDs(waiting)}
					expectValidBroker(t, broker, want)
				}
			}
		}
	}
}

func TestIsValidBrokerOfEveryNumberOfAClient(t *testing.T) {
	broker := brokerOf(t, 27, 9, "1.20.3 4.20.3 5.20.3", "0.20.3 3.20.3 8.20.3")
	for place := range 6 {
		for _, requested := range append(grantsOutOfRange(), 8, 9, 20, 59, 60) {
			changed := copyBroker(broker)
			pointersToClients(&changed)[place].Requested = requested
			expectValidBroker(t, changed, requested >= 8 && requested <= 60)
		}
		for _, priority := range append(prioritiesOutOfRange(), 0, 1, 5, 8, 9) {
			changed := copyBroker(broker)
			pointersToClients(&changed)[place].Priority = priority
			expectValidBroker(t, changed, priority >= 0 && priority <= 9)
		}
		for _, id := range append(idsOutOfRange(), 0, 1, 2, 3, 4, 5, 6, 7, 8, 9) {
			changed := copyBroker(broker)
			pointersToClients(&changed)[place].ID = id
			allowed := [][]int{{1, 2}, {2, 4}, {5, 6, 7}, {0, 2}, {2, 3, 6, 7}, {6, 7, 8}}[place]
			expectValidBroker(t, changed, slices.Contains(allowed, id))
		}
	}
}

func TestEveryPoolHasItsCapacity(t *testing.T) {
	for pool := 8; pool <= 120; pool++ {
		capacity := 0
		for _, least := range []int{8, 16, 24, 32, 40} {
			if pool >= least {
				capacity++
			}
		}
		broker := newBroker(t, pool)
		want := impl.Broker{Pool: pool}
		for id := range capacity + 5 {
			broker = added(t, broker, 8+id, 9-id/2)
			client := impl.Client{ID: id, Requested: 8 + id, Priority: 9 - id/2}
			if id < capacity {
				want.Active = append(want.Active, client)
			} else {
				want.Waiting = append(want.Waiting, client)
			}
			want.NextID = id + 1
			expectBroker(t, "AddClient", broker, want)
			expectValidBroker(t, broker, true)
		}
		for _, priority := range []int{0, 5, 9} {
			expectNotAdded(t, broker, 8, priority)
			expectNotAdded(t, broker, 60, priority)
		}
		// A client that leaves, waiting or active, makes room in the queue.
		for id := range capacity + 5 {
			again := added(t, removed(t, broker, id), 30, 4)
			last := impl.Client{ID: capacity + 5, Requested: 30, Priority: 4}
			if len(again.Active) != capacity || len(again.Waiting) != 5 || again.Waiting[4] != last {
				t.Fatalf("a client is added to %+v", again)
			}
			expectNotAdded(t, again, 30, 4)
		}
	}
}

func TestAddClientOfNumbersOutOfRange(t *testing.T) {
	for _, broker := range []impl.Broker{
		newBroker(t, 8),
		brokerOf(t, 8, 1, "0.8.0", ""),
		brokerOf(t, 120, 7, "1.8.0 2.60.9", ""),
		brokerOf(t, 16, 7, "1.8.0 2.60.9", "5.20.5"),
	} {
		for _, requested := range grantsOutOfRange() {
			expectNotAdded(t, broker, requested, 0)
			expectNotAdded(t, broker, requested, 9)
			expectNotAdded(t, broker, requested, 10)
		}
		for _, priority := range prioritiesOutOfRange() {
			expectNotAdded(t, broker, 8, priority)
			expectNotAdded(t, broker, 60, priority)
		}
		for requested := 8; requested <= 60; requested++ {
			for priority := range 10 {
				added(t, broker, requested, priority)
			}
		}
	}
}

func TestAddClientAtTheLastID(t *testing.T) {
	for _, c := range []struct{ pool, activeAfter, waitingAfter int }{{8, 1, 1}, {16, 2, 0}} {
		broker := brokerOf(t, c.pool, 999, "998.8.0", "")
		last := added(t, broker, 20, 7)
		if last.NextID != 1000 || len(last.Active) != c.activeAfter || len(last.Waiting) != c.waitingAfter {
			t.Errorf("the last client is added to %+v", last)
		}
		expectValidBroker(t, last, true)
		expectNotAdded(t, last, 20, 7)
		// An ID that is free again is not given out again.
		for _, id := range []int{998, 999} {
			left := removed(t, last, id)
			if left.NextID != 1000 {
				t.Errorf("RemoveClient gives the ID %d back", id)
			}
			expectNotAdded(t, left, 20, 7)
			expectNotAdded(t, removed(t, left, 1997-id), 20, 7)
		}
	}
	// The clients come and go until all IDs are given out.
	broker := newBroker(t, 8)
	for range 1000 {
		broker = removed(t, added(t, broker, 8, 0), broker.NextID)
	}
	expectBroker(t, "RemoveClient", broker, impl.Broker{Pool: 8, NextID: 1000})
	expectNotAdded(t, broker, 8, 0)
}

func TestRemoveActiveClientWhileNobodyWaits(t *testing.T) {
	for _, pool := range []int{24, 31, 32, 120} {
		broker := brokerOf(t, pool, 9, "1.20.5 4.8.0 7.60.9", "")
		expectBroker(t, "RemoveClient", removed(t, broker, 1), brokerOf(t, pool, 9, "4.8.0 7.60.9", ""))
		expectBroker(t, "RemoveClient", removed(t, broker, 4), brokerOf(t, pool, 9, "1.20.5 7.60.9", ""))
		expectBroker(t, "RemoveClient", removed(t, broker, 7), brokerOf(t, pool, 9, "1.20.5 4.8.0", ""))
		only := removed(t, removed(t, broker, 7), 1)
		expectBroker(t, "RemoveClient", only, brokerOf(t, pool, 9, "4.8.0", ""))
		expectBroker(t, "RemoveClient", removed(t, only, 4), brokerOf(t, pool, 9, "", ""))
	}
}

func TestRemoveActiveClientAdmitsTheHighestPriority(t *testing.T) {
	for _, c := range []struct{ waiting, admitted, left string }{
		{"2.10.0", "2.10.0", ""},
		{"2.10.9", "2.10.9", ""},
		{"2.10.3 3.20.7 4.30.5", "3.20.7", "2.10.3 4.30.5"},
		{"2.10.9 3.20.7 4.30.5", "2.10.9", "3.20.7 4.30.5"},
		{"2.10.3 3.20.5 4.30.7", "4.30.7", "2.10.3 3.20.5"},
		{"2.10.5 3.20.5 4.30.5", "2.10.5", "3.20.5 4.30.5"},
		{"2.10.0 3.20.0 4.30.0", "2.10.0", "3.20.0 4.30.0"},
		{"2.10.3 3.20.7 4.30.7", "3.20.7", "2.10.3 4.30.7"},
		{"2.10.7 3.20.3 4.30.7", "2.10.7", "3.20.3 4.30.7"},
		{"2.10.0 3.20.1 4.30.0", "3.20.1", "2.10.0 4.30.0"},
		{"2.60.0 3.8.0 4.8.0", "2.60.0", "3.8.0 4.8.0"},
		{"2.8.8 3.60.9", "3.60.9", "2.8.8"},
		{"2.8.5 3.9.4 4.9.6 5.9.6 6.9.5", "4.9.6", "2.8.5 3.9.4 5.9.6 6.9.5"},
	} {
		broker := brokerOf(t, 20, 8, "0.30.9 1.30.0", c.waiting)
		expectBroker(t, "RemoveClient", removed(t, broker, 0), brokerOf(t, 20, 8, "1.30.0 "+c.admitted, c.left))
		expectBroker(t, "RemoveClient", removed(t, broker, 1), brokerOf(t, 20, 8, "0.30.9 "+c.admitted, c.left))
	}
}

func TestAdmittedClientComesAtItsPlaceByID(t *testing.T) {
	for _, admitted := range []int{0, 2, 4, 6, 8} {
		for _, gone := range []int{1, 3, 5, 7} {
			broker := brokerOf(t, 32, 9, "1.30.9 3.30.9 5.30.9 7.30.9", strconv.Itoa(admitted)+".10.0")
			expectValidBroker(t, broker, true)
			got := removed(t, broker, gone)
			want := slices.DeleteFunc([]int{1, 3, 5, 7, admitted}, func(id int) bool { return id == gone })
			slices.Sort(want)
			if ids := idsOf(got.Active); !slices.Equal(ids, want) || len(got.Waiting) != 0 {
				t.Errorf("without client %d, %v are active, want %v", gone, ids, want)
			}
		}
	}
	// A client that waited longer than all the active ones comes first.
	broker := brokerOf(t, 16, 9, "5.30.9 7.30.9", "1.10.0 6.10.0 8.10.0")
	expectBroker(t, "RemoveClient", removed(t, broker, 5), brokerOf(t, 16, 9, "1.10.0 7.30.9", "6.10.0 8.10.0"))
	expectBroker(t, "RemoveClient", removed(t, broker, 7), brokerOf(t, 16, 9, "1.10.0 5.30.9", "6.10.0 8.10.0"))
	broker = brokerOf(t, 16, 9, "5.30.9 7.30.9", "1.10.0 6.10.1 8.10.0")
	expectBroker(t, "RemoveClient", removed(t, broker, 5), brokerOf(t, 16, 9, "6.10.1 7.30.9", "1.10.0 8.10.0"))
	expectBroker(t, "RemoveClient", removed(t, broker, 7), brokerOf(t, 16, 9, "5.30.9 6.10.1", "1.10.0 8.10.0"))
	broker = brokerOf(t, 8, 9, "7.30.9", "1.10.0")
	expectBroker(t, "RemoveClient", removed(t, broker, 7), brokerOf(t, 8, 9, "1.10.0", ""))
}

func TestRemoveWaitingClient(t *testing.T) {
	broker := brokerOf(t, 20, 8, "2.30.9 5.30.0", "0.10.0 3.20.9 6.60.9")
	expectBroker(t, "RemoveClient", removed(t, broker, 0), brokerOf(t, 20, 8, "2.30.9 5.30.0", "3.20.9 6.60.9"))
	expectBroker(t, "RemoveClient", removed(t, broker, 3), brokerOf(t, 20, 8, "2.30.9 5.30.0", "0.10.0 6.60.9"))
	expectBroker(t, "RemoveClient", removed(t, broker, 6), brokerOf(t, 20, 8, "2.30.9 5.30.0", "0.10.0 3.20.9"))
	none := removed(t, removed(t, removed(t, broker, 3), 0), 6)
	expectBroker(t, "RemoveClient", none, brokerOf(t, 20, 8, "2.30.9 5.30.0", ""))
}

func TestClientThatDoesNotExist(t *testing.T) {
	for _, broker := range validBrokers(t) {
		ids := slices.Concat(idsOf(broker.Active), idsOf(broker.Waiting))
		for id := -2; id <= 1001; id++ {
			if !slices.Contains(ids, id) {
				expectNoClient(t, broker, id)
			}
		}
		for _, id := range idsOutOfRange() {
			expectNoClient(t, broker, id)
		}
		for _, id := range ids {
			expectNoClient(t, removed(t, broker, id), id)
		}
	}
}

func TestSetRequestChangesOneNumber(t *testing.T) {
	for _, broker := range validBrokers(t) {
		for place, client := range clientsOf(broker) {
			for requested := 8; requested <= 60; requested++ {
				want := copyBroker(broker)
				pointersToClients(&want)[place].Requested = requested
				got, ok := impl.SetRequest(broker, client.ID, requested)
				expectSuccess(t, "SetRequest", ok, true)
				expectBroker(t, "SetRequest", got, want)
				expectValidBroker(t, got, true)
			}
			for _, requested := range grantsOutOfRange() {
				got, ok := impl.SetRequest(broker, client.ID, requested)
				expectSameBroker(t, "SetRequest", broker, got, ok)
			}
		}
	}
}

func TestSetRequestOfAWaitingClientTakesEffectLater(t *testing.T) {
	broker := brokerOf(t, 20, 3, "0.10.5 1.30.1", "2.8.9")
	expectGrants(t, broker, 10, 10)
	changed, ok := impl.SetRequest(broker, 2, 60)
	expectSuccess(t, "SetRequest", ok, true)
	expectBroker(t, "SetRequest", changed, brokerOf(t, 20, 3, "0.10.5 1.30.1", "2.60.9"))
	expectGrants(t, changed, 10, 10)
	expectGrants(t, removed(t, broker, 1), 10, 8)
	expectGrants(t, removed(t, changed, 1), 8, 12)
	changed, ok = impl.SetRequest(broker, 1, 8)
	expectSuccess(t, "SetRequest", ok, true)
	expectGrants(t, changed, 10, 8)
}

func TestGrantsOfWrittenBrokers(t *testing.T) {
	for _, c := range []struct {
		pool   int
		active string
		grants []int
	}{
		// The pool satisfies everybody, exactly or with something left.
		{120, "0.60.0 1.60.0", []int{60, 60}},
		{120, "0.20.1 1.30.5 2.40.9", []int{20, 30, 40}},
		{90, "0.20.1 1.30.5 2.40.9", []int{20, 30, 40}},
		{89, "0.20.1 1.30.5 2.40.9", []int{19, 30, 40}},
		{120, "0.8.0 1.8.9 2.8.5 3.8.5 4.8.0", []int{8, 8, 8, 8, 8}},
		{8, "0.8.0", []int{8}},
		{60, "0.60.0", []int{60}},
		{59, "0.60.0", []int{59}},
		{120, "0.60.9", []int{60}},
		// The pool satisfies only the higher priorities.
		{70, "0.20.1 1.30.5 2.40.9", []int{8, 22, 40}},
		{78, "0.20.1 1.30.5 2.40.9", []int{8, 30, 40}},
		{79, "0.20.1 1.30.5 2.40.9", []int{9, 30, 40}},
		{56, "0.20.1 1.30.5 2.40.9", []int{8, 8, 40}},
		{55, "0.20.1 1.30.5 2.40.9", []int{8, 8, 39}},
		{56, "0.60.0 1.60.1", []int{8, 48}},
		{56, "0.60.1 1.60.0", []int{48, 8}},
		{60, "0.60.8 1.60.9 2.60.0", []int{8, 44, 8}},
		{100, "0.60.8 1.60.9 2.60.0", []int{32, 60, 8}},
		{120, "0.60.0 1.60.2 2.60.1", []int{8, 60, 52}},
		{64, "0.20.0 1.20.9 2.20.4 3.20.4 4.20.9", []int{8, 20, 8, 8, 20}},
		{66, "0.20.0 1.20.9 2.20.4 3.20.4 4.20.9", []int{8, 20, 10, 8, 20}},
		// A client that requests no more than MinGrant leaves the rest.
		{20, "0.30.1 1.8.9", []int{12, 8}},
		// MinGrant for each client, and little more.
		{8, "0.60.9", []int{8}},
		{16, "0.60.9 1.60.0", []int{8, 8}},
		{17, "0.60.0 1.60.9", []int{8, 9}},
		{40, "0.60.9 1.60.0 2.60.5 3.60.9 4.60.1", []int{8, 8, 8, 8, 8}},
		{41, "0.60.5 1.60.0 2.60.9 3.60.9 4.60.1", []int{8, 8, 9, 8, 8}},
		// Several clients of one priority are served in their order.
		{30, "0.20.5 1.20.5", []int{20, 10}},
		{28, "0.20.5 1.20.5", []int{20, 8}},
		{30, "0.10.0 1.20.0 2.30.0", []int{10, 12, 8}},
		{40, "0.10.9 1.20.9 2.30.9", []int{10, 20, 10}},
		{50, "0.20.5 1.20.7 2.20.5", []int{20, 20, 10}},
		{47, "0.20.5 1.20.7 2.20.5", []int{19, 20, 8}},
		{60, "3.13.4 5.60.7 9.13.4 20.13.7", []int{8, 36, 8, 8}},
		{60, "3.13.4 5.13.7 9.13.4 20.60.7", []int{8, 13, 8, 31}},
		{60, "3.13.4 5.13.7 9.13.4 20.13.7", []int{13, 13, 13, 13}},
		{47, "3.13.4 5.13.7 9.13.4 20.13.7", []int{13, 13, 8, 13}},
	} {
		expectGrants(t, brokerOf(t, c.pool, 1000, c.active, ""), c.grants...)
	}
}

func TestGrantForOfWaitingClients(t *testing.T) {
	broker := brokerOf(t, 20, 9, "2.30.1 5.10.5", "1.60.9 3.8.0 6.20.5")
	expectGrants(t, broker, 10, 10)
	for _, id := range []int{1, 3, 6} {
		expectNoGrantFor(t, broker, id)
	}
	expectGrants(t, removed(t, broker, 2), 12, 8)
	expectNoGrantFor(t, removed(t, broker, 2), 2)
	expectGrants(t, removed(t, broker, 5), 12, 8)
}

// No broker of up to three clients, and no broker of five that request little
// or much, gives a client what another one should have.
func TestGrantsOfEveryBroker(t *testing.T) {
	kinds := clientsOfEvery([]int{8, 9, 20, 60}, []int{0, 5, 9})
	for _, places := range placesUpTo(3, len(kinds)) {
		for pool := max(8, 8*len(places)); pool <= 120; pool += 1 + pool/7 {
			expectFairGrants(t, brokerOfClients(pool, elementsAt(kinds, places)))
		}
	}
	kinds = clientsOfEvery([]int{8, 13, 60}, []int{2, 3})
	for _, places := range placesUpTo(5, len(kinds)) {
		for _, pool := range []int{40, 41, 47, 60, 90, 119, 120} {
			expectFairGrants(t, brokerOfClients(pool, elementsAt(kinds, places)))
		}
	}
}

func TestNoGrantShrinksWhenAClientLeaves(t *testing.T) {
	kinds := clientsOfEvery([]int{8, 13, 60}, []int{2, 3})
	for _, places := range placesUpTo(4, len(kinds)) {
		for _, pool := range []int{32, 33, 39, 40, 60, 90, 120} {
			broker := brokerOfClients(pool, elementsAt(kinds, places))
			before := impl.ComputeGrants(broker)
			for place := range places {
				after := impl.ComputeGrants(removed(t, broker, place))
				remaining := slices.Delete(slices.Clone(before), place, place+1)
				for i, grant := range remaining {
					if after[i] < grant {
						t.Fatalf("without client %d of %+v the grants %v are %v", place, broker, before, after)
					}
				}
			}
		}
	}
}

func TestEveryWaitingClientIsAdmitted(t *testing.T) {
	for _, priorities := range placesUpTo(5, 3) {
		for _, order := range [][]int{{0}, {1}, {2}, {0, 1, 2}, {2, 1, 0}, {2, 0}, {1, 1, 0, 2, 2}} {
			broker := brokerOf(t, 24, 8, "0.20.0 1.20.9 2.20.5", "")
			broker.Waiting = make([]impl.Client, len(priorities))
			for i, priority := range priorities {
				broker.Waiting[i] = impl.Client{ID: 3 + i, Requested: 8 + i, Priority: 4 * priority}
			}
			expectAllAdmitted(t, broker, order)
		}
	}
	// Every order in which the active clients can leave.
	for _, order := range placesUpTo(5, 3) {
		if len(order) == 5 {
			expectAllAdmitted(t, brokerOf(t, 24, 8, "0.20.0 1.20.9 2.20.5", "3.8.1 4.9.5 5.60.5 6.20.9 7.20.0"), order)
		}
	}
	// As many as there can be.
	for _, order := range ordersOf(5) {
		expectAllAdmitted(t, brokerOf(t, 120, 10, "0.8.0 2.8.0 4.8.0 6.8.0 8.8.0", "1.8.0 3.8.1 5.8.0 7.8.1 9.8.9"), order)
	}
}

func TestEveryShortSequenceOfBrokerOperations(t *testing.T) {
	for _, pool := range []int{8, 16, 25} {
		expectBrokerSequences(t, newBroker(t, pool), brokerModel{pool: pool}, 4)
	}
	for _, priorities := range placesUpTo(6, 2) {
		if len(priorities) == 6 {
			broker, model := newBroker(t, 20), brokerModel{pool: 20}
			for _, priority := range priorities {
				broker = added(t, broker, 10, 4+priority)
				model.add(10, 4+priority)
			}
			expectBrokerSequences(t, broker, model, 3)
		}
	}
}

func TestLongSequencesOfBrokerOperations(t *testing.T) {
	for pool := 8; pool <= 120; pool += 7 {
		broker, model := newBroker(t, pool), brokerModel{pool: pool}
		state := pool
		random := func(limit int) int {
			state = state * 48271 % 2147483647
			return state / 64 % limit
		}
		for range 6000 {
			id := model.next - random(3)
			if count := len(model.clients); count > 0 && random(5) > 0 {
				id = model.clients[random(count)].client.ID
			}
			switch random(4) {
			case 0:
				broker = expectModelAdd(t, broker, &model, 7+random(55), random(11))
			case 1:
				// Few priorities, so that some clients have the same one.
				broker = expectModelAdd(t, broker, &model, 8+random(5), 4+random(2))
			case 2:
				broker = expectModelRemove(t, broker, &model, id)
			default:
				broker = expectModelRequest(t, broker, &model, id, 7+random(55))
			}
			expectBrokerModel(t, broker, model)
		}
		if model.next != 1000 {
			t.Errorf("with the pool %d only %d IDs are given out", pool, model.next)
		}
	}
}

func TestEqualBrokersOfEveryPair(t *testing.T) {
	brokers := differentBrokers(t)
	for i, a := range brokers {
		for j, b := range brokers {
			if got := impl.EqualBrokers(a, copyBroker(b)); got != (i == j) {
				t.Errorf("EqualBrokers(%+v, %+v) = %v", a, b, got)
			}
		}
	}
	for _, broker := range slices.Concat(validBrokers(t), invalidBrokers(t)) {
		if !impl.EqualBrokers(broker, copyBroker(broker)) || !impl.EqualBrokers(broker, slackBroker(broker)) {
			t.Errorf("%+v does not equal its copy", broker)
		}
		for _, other := range brokersNear(broker) {
			if impl.EqualBrokers(broker, other) || impl.EqualBrokers(other, broker) {
				t.Errorf("%+v equals %+v", broker, other)
			}
		}
	}
}

func TestEqualBrokersTakesNilForEmpty(t *testing.T) {
	some := clientsOfIDs([]int{1})
	for _, pair := range [][2]impl.Broker{
		{{}, {Active: []impl.Client{}, Waiting: []impl.Client{}}},
		{{Active: some}, {Active: some, Waiting: some[:0]}},
		{{Waiting: some}, {Active: some[:0], Waiting: some}},
	} {
		if !impl.EqualBrokers(pair[0], pair[1]) || !impl.EqualBrokers(pair[1], pair[0]) {
			t.Errorf("%+v does not equal %+v", pair[0], pair[1])
		}
	}
}

func TestBrokerFunctionsLeaveTheirArguments(t *testing.T) {
	for _, given := range slices.Concat(validBrokers(t), invalidBrokers(t)) {
		for _, broker := range []impl.Broker{slackBroker(given), sharingBroker(given)} {
			before := dumpBroker(broker)
			for range 2 {
				impl.IsValidBroker(broker)
				impl.EqualBrokers(broker, broker)
				impl.ComputeGrants(broker)
				resultBrokers(broker)
			}
			if !slices.Equal(dumpBroker(broker), before) {
				t.Fatalf("%+v or its capacity is modified", given)
			}
		}
	}
}

func TestBrokerFunctionsReturnNewMemory(t *testing.T) {
	for _, given := range slices.Concat(validBrokers(t), invalidBrokers(t)) {
		for _, broker := range []impl.Broker{copyBroker(given), slackBroker(given), sharingBroker(given)} {
			for _, result := range resultBrokers(broker) {
				expectApart(t, clientPointersOf(result), clientPointersOf(broker))
			}
		}
	}
}

// A result may be changed without an effect on the broker that was passed in,
// on the other results, or on the next answer.
func TestResultsOfABrokerCanBeChanged(t *testing.T) {
	for _, given := range slices.Concat(validBrokers(t), invalidBrokers(t)) {
		broker := slackBroker(given)
		before := dumpBroker(broker)
		first, second := resultBrokers(broker), resultBrokers(broker)
		grants, again := impl.ComputeGrants(broker), impl.ComputeGrants(broker)
		for _, result := range first {
			overwriteClients(result.Active)
			overwriteClients(result.Waiting)
		}
		wanted := slices.Clone(again)
		for i := range grants[:cap(grants)] {
			grants[:cap(grants)][i] = 77
		}
		if !slices.Equal(dumpBroker(broker), before) {
			t.Fatalf("%+v changes with a result", given)
		}
		for i, result := range resultBrokers(broker) {
			if !slices.Equal(dumpBroker(copyBroker(result)), dumpBroker(copyBroker(second[i]))) {
				t.Fatalf("answer %d of %+v changes with a result", i, given)
			}
		}
		if !slices.Equal(again, wanted) || !slices.Equal(impl.ComputeGrants(broker), wanted) {
			t.Fatalf("the grants of %+v change with a result", given)
		}
	}
}

// brokerModel keeps the clients that were not removed in one list, in the
// order in which they were added.
type brokerModel struct {
	pool    int
	next    int
	clients []modelClient
}

type modelClient struct {
	client impl.Client
	waits  bool
}

func (model brokerModel) clone() brokerModel {
	model.clients = slices.Clone(model.clients)
	return model
}

func (model brokerModel) count(waits bool) int {
	return len(model.list(waits))
}

func (model brokerModel) list(waits bool) []impl.Client {
	var list []impl.Client
	for _, c := range model.clients {
		if c.waits == waits {
			list = append(list, c.client)
		}
	}
	return list
}

func (model brokerModel) broker() impl.Broker {
	return impl.Broker{Pool: model.pool, NextID: model.next, Active: model.list(false), Waiting: model.list(true)}
}

func (model brokerModel) find(id int) int {
	return slices.IndexFunc(model.clients, func(c modelClient) bool { return c.client.ID == id })
}

func (model *brokerModel) add(requested int, priority int) bool {
	if requested < 8 || requested > 60 || priority < 0 || priority > 9 || model.next == 1000 || model.count(true) == 5 {
		return false
	}
	client := impl.Client{ID: model.next, Requested: requested, Priority: priority}
	// Another client is active if it leaves 8 of the pool for each of them.
	count := model.count(false) + 1
	model.clients = append(model.clients, modelClient{client, count > 5 || 8*count > model.pool})
	model.next++
	return true
}

func (model *brokerModel) remove(id int) bool {
	i := model.find(id)
	if i < 0 {
		return false
	}
	wasActive := !model.clients[i].waits
	model.clients = slices.Delete(model.clients, i, i+1)
	if waiting := firstServed(model.list(true)); wasActive && len(waiting) > 0 {
		model.clients[model.find(waiting[0].ID)].waits = false
	}
	return true
}

func (model *brokerModel) request(id int, requested int) bool {
	i := model.find(id)
	if i < 0 || requested < 8 || requested > 60 {
		return false
	}
	model.clients[i].client.Requested = requested
	return true
}

// firstServed returns the clients by priority and, within one, by ID.
func firstServed(clients []impl.Client) []impl.Client {
	return slices.SortedFunc(slices.Values(clients), func(a impl.Client, b impl.Client) int {
		return cmp.Or(b.Priority-a.Priority, a.ID-b.ID)
	})
}

func expectModelAdd(t *testing.T, broker impl.Broker, model *brokerModel, requested int, priority int) impl.Broker {
	t.Helper()
	wantID := model.next
	got, id, ok := impl.AddClient(broker, requested, priority)
	expectSuccess(t, "AddClient", ok, model.add(requested, priority))
	if ok && id != wantID || !ok && id != 0 {
		t.Fatalf("AddClient to %+v returns the ID %d and %v", broker, id, ok)
	}
	return got
}

func expectModelRemove(t *testing.T, broker impl.Broker, model *brokerModel, id int) impl.Broker {
	t.Helper()
	got, ok := impl.RemoveClient(broker, id)
	expectSuccess(t, "RemoveClient", ok, model.remove(id))
	return got
}

func expectModelRequest(t *testing.T, broker impl.Broker, model *brokerModel, id int, requested int) impl.Broker {
	t.Helper()
	got, ok := impl.SetRequest(broker, id, requested)
	expectSuccess(t, "SetRequest", ok, model.request(id, requested))
	return got
}

// expectBrokerModel also holds the grants against those of a pool that is
// given out in units of 1: each goes to the first client, by priority and ID,
// that has less than it requested.
func expectBrokerModel(t *testing.T, broker impl.Broker, model brokerModel) {
	t.Helper()
	expectBroker(t, "the operation", broker, model.broker())
	expectValidBroker(t, broker, true)
	expectFairGrants(t, broker)
	active := model.list(false)
	grants := map[int]int{}
	for _, client := range active {
		grants[client.ID] = 8
	}
	for range model.pool - 8*len(active) {
		for _, client := range firstServed(active) {
			if grants[client.ID] < client.Requested {
				grants[client.ID]++
				break
			}
		}
	}
	want := make([]int, len(active))
	for i, client := range active {
		want[i] = grants[client.ID]
	}
	expectGrants(t, broker, want...)
}

// expectBrokerSequences performs every sequence of this many operations on
// the broker and on its model.
func expectBrokerSequences(t *testing.T, broker impl.Broker, model brokerModel, length int) {
	t.Helper()
	expectBrokerModel(t, broker, model)
	if length == 0 {
		return
	}
	for _, demand := range [][2]int{{8, 5}, {30, 5}, {12, 1}} {
		next := model.clone()
		expectBrokerSequences(t, expectModelAdd(t, broker, &next, demand[0], demand[1]), next, length-1)
	}
	for id := range model.next + 1 {
		next := model.clone()
		expectBrokerSequences(t, expectModelRemove(t, broker, &next, id), next, length-1)
	}
	for id := range min(2, model.next+1) {
		next := model.clone()
		expectBrokerSequences(t, expectModelRequest(t, broker, &next, id, 17), next, length-1)
	}
}

// expectAllAdmitted removes active clients until nobody waits. The places say
// which of them; they are repeated.
func expectAllAdmitted(t *testing.T, broker impl.Broker, places []int) {
	t.Helper()
	expectValidBroker(t, broker, true)
	count := len(broker.Active)
	for n, next := range firstServed(broker.Waiting) {
		gone := broker.Active[places[n%len(places)]].ID
		after := removed(t, broker, gone)
		want := append(idsOf(broker.Active), next.ID)
		want = slices.DeleteFunc(want, func(id int) bool { return id == gone })
		slices.Sort(want)
		if !slices.Equal(idsOf(after.Active), want) || len(after.Active) != count || slices.Contains(idsOf(after.Waiting), next.ID) {
			t.Fatalf("without client %d, %+v is %+v and not with client %d", gone, broker, after, next.ID)
		}
		broker = after
	}
	if len(broker.Waiting) > 0 {
		t.Fatalf("%+v has clients that wait forever", broker)
	}
}

// expectFairGrants checks what holds for the grants of every valid broker.
func expectFairGrants(t *testing.T, broker impl.Broker) {
	t.Helper()
	grants := impl.ComputeGrants(broker)
	if len(grants) != len(broker.Active) {
		t.Fatalf("%+v has the grants %v", broker, grants)
	}
	sum, requested := 0, 0
	for i, client := range broker.Active {
		sum += grants[i]
		requested += client.Requested
		if grants[i] < 8 || grants[i] > client.Requested {
			t.Fatalf("%+v gives client %d the grant %d", broker, client.ID, grants[i])
		}
		for j, other := range broker.Active {
			isEarlier := other.Priority > client.Priority || other.Priority == client.Priority && j < i
			if grants[i] > 8 && isEarlier && grants[j] < other.Requested {
				t.Fatalf("%+v serves client %d before client %d: %v", broker, client.ID, other.ID, grants)
			}
		}
	}
	if sum > broker.Pool || sum < min(broker.Pool, requested) {
		t.Fatalf("%+v gives out %d: %v", broker, sum, grants)
	}
}

func expectGrants(t *testing.T, broker impl.Broker, want ...int) {
	t.Helper()
	if got := impl.ComputeGrants(broker); !slices.Equal(got, want) {
		t.Fatalf("the grants of %+v are %v, want %v", broker, got, want)
	}
	for i, client := range broker.Active {
		if got, ok := impl.GrantFor(broker, client.ID); !ok || got != want[i] {
			t.Fatalf("GrantFor(%+v, %d) returns %d and %v, want %d", broker, client.ID, got, ok, want[i])
		}
	}
	for _, client := range broker.Waiting {
		expectNoGrantFor(t, broker, client.ID)
	}
}

func expectNoGrantFor(t *testing.T, broker impl.Broker, id int) {
	t.Helper()
	if got, ok := impl.GrantFor(broker, id); ok || got != 0 {
		t.Fatalf("GrantFor(%+v, %d) returns %d and %v", broker, id, got, ok)
	}
}

// expectNoClient checks that every function of a client refuses this ID.
func expectNoClient(t *testing.T, broker impl.Broker, id int) {
	t.Helper()
	got, ok := impl.RemoveClient(broker, id)
	expectSameBroker(t, "RemoveClient", broker, got, ok)
	got, ok = impl.SetRequest(broker, id, 20)
	expectSameBroker(t, "SetRequest", broker, got, ok)
	expectNoGrantFor(t, broker, id)
}

func expectNotAdded(t *testing.T, broker impl.Broker, requested int, priority int) {
	t.Helper()
	got, id, ok := impl.AddClient(broker, requested, priority)
	expectSameBroker(t, "AddClient", broker, got, ok)
	if id != 0 {
		t.Fatalf("AddClient returns the ID %d and false", id)
	}
}

func expectSameBroker(t *testing.T, what string, broker impl.Broker, got impl.Broker, ok bool) {
	t.Helper()
	if ok {
		t.Fatalf("%s of %+v succeeds: %+v", what, broker, got)
	}
	expectBroker(t, what, got, broker)
}

// expectBroker compares all fields without EqualBrokers, and then with it.
func expectBroker(t *testing.T, what string, got impl.Broker, want impl.Broker) {
	t.Helper()
	isSame := got.Pool == want.Pool && got.NextID == want.NextID &&
		slices.Equal(got.Active, want.Active) && slices.Equal(got.Waiting, want.Waiting)
	if !isSame || !impl.EqualBrokers(got, want) {
		t.Fatalf("%s returns %+v, want %+v", what, got, want)
	}
}

func expectValidBroker(t *testing.T, broker impl.Broker, want bool) {
	t.Helper()
	if got := impl.IsValidBroker(broker); got != want {
		t.Fatalf("IsValidBroker(%+v) is %v", broker, got)
	}
}

func newBroker(t *testing.T, pool int) impl.Broker {
	t.Helper()
	broker, ok := impl.NewBroker(pool)
	if !ok {
		t.Fatalf("NewBroker(%d) fails", pool)
	}
	return broker
}

func added(t *testing.T, broker impl.Broker, requested int, priority int) impl.Broker {
	t.Helper()
	result, id, ok := impl.AddClient(broker, requested, priority)
	if !ok || id != broker.NextID {
		t.Fatalf("AddClient(%+v, %d, %d) returns the ID %d and %v", broker, requested, priority, id, ok)
	}
	return result
}

func removed(t *testing.T, broker impl.Broker, id int) impl.Broker {
	t.Helper()
	result, ok := impl.RemoveClient(broker, id)
	if !ok {
		t.Fatalf("RemoveClient(%+v, %d) fails", broker, id)
	}
	return result
}

// resultBrokers returns what the functions that return a broker make of this
// one, with clients that it has and that it does not have.
func resultBrokers(broker impl.Broker) []impl.Broker {
	var results []impl.Broker
	for _, requested := range []int{7, 8} {
		result, _, _ := impl.AddClient(broker, requested, 5)
		results = append(results, result)
	}
	for _, id := range []int{-1, 0, 1, 2, 3, 4, 5, 999} {
		result, _ := impl.RemoveClient(broker, id)
		results = append(results, result)
		for _, requested := range []int{33, 61} {
			result, _ = impl.SetRequest(broker, id, requested)
			results = append(results, result)
		}
	}
	return results
}

// brokerOf reads the clients from strings as "0.30.1 1.10.5": ID, Requested
// and Priority of each.
func brokerOf(t *testing.T, pool int, next int, active string, waiting string) impl.Broker {
	t.Helper()
	return impl.Broker{Pool: pool, NextID: next, Active: parsedClients(t, active), Waiting: parsedClients(t, waiting)}
}

func parsedClients(t *testing.T, s string) []impl.Client {
	t.Helper()
	var clients []impl.Client
	for _, field := range strings.Fields(s) {
		var numbers []int
		for _, part := range strings.Split(field, ".") {
			number, err := strconv.Atoi(part)
			if err != nil {
				t.Fatal(err)
			}
			numbers = append(numbers, number)
		}
		clients = append(clients, impl.Client{ID: numbers[0], Requested: numbers[1], Priority: numbers[2]})
	}
	return clients
}

// brokerOfClients gives the clients their places as IDs.
func brokerOfClients(pool int, clients []impl.Client) impl.Broker {
	for i := range clients {
		clients[i].ID = i
	}
	return impl.Broker{Pool: pool, NextID: len(clients), Active: clients}
}

func clientsOfEvery(requests []int, priorities []int) []impl.Client {
	var clients []impl.Client
	for _, requested := range requests {
		for _, priority := range priorities {
			clients = append(clients, impl.Client{Requested: requested, Priority: priority})
		}
	}
	return clients
}

func clientsOfIDs(ids []int) []impl.Client {
	clients := make([]impl.Client, len(ids))
	for i, id := range ids {
		clients[i] = impl.Client{ID: id, Requested: 8 + i, Priority: 9 - i}
	}
	return clients
}

func idsOf(clients []impl.Client) []int {
	ids := make([]int, len(clients))
	for i, client := range clients {
		ids[i] = client.ID
	}
	return ids
}

func clientsOf(broker impl.Broker) []impl.Client {
	return slices.Concat(broker.Active, broker.Waiting)
}

// pointersToClients returns pointers to the active and then to the waiting
// clients, so that one of them can be changed in its place.
func pointersToClients(broker *impl.Broker) []*impl.Client {
	var pointers []*impl.Client
	for _, clients := range [][]impl.Client{broker.Active, broker.Waiting} {
		for i := range clients {
			pointers = append(pointers, &clients[i])
		}
	}
	return pointers
}

func clientPointersOf(broker impl.Broker) []any {
	return append(pointersTo(broker.Active), pointersTo(broker.Waiting)...)
}

// dumpBroker returns all numbers of the broker, with those in unused capacity.
func dumpBroker(broker impl.Broker) []int {
	numbers := []int{broker.Pool, broker.NextID}
	for _, clients := range [][]impl.Client{broker.Active, broker.Waiting} {
		numbers = append(numbers, len(clients))
		for _, client := range clients[:cap(clients)] {
			numbers = append(numbers, client.ID, client.Requested, client.Priority)
		}
	}
	return numbers
}

// copyBroker returns the broker in new memory without unused capacity.
func copyBroker(broker impl.Broker) impl.Broker {
	broker.Active = append(make([]impl.Client, 0, len(broker.Active)), broker.Active...)
	broker.Waiting = append(make([]impl.Client, 0, len(broker.Waiting)), broker.Waiting...)
	return broker
}

// slackBroker returns the broker in new memory with two unused clients behind
// each list, which a function could write to.
func slackBroker(broker impl.Broker) impl.Broker {
	unused := impl.Client{ID: 77, Requested: 77, Priority: 77}
	broker.Active = withUnused(broker.Active, unused)
	broker.Waiting = withUnused(broker.Waiting, unused)
	return broker
}

// sharingBroker returns the broker with all clients in one slice, so that the
// active ones go on into the waiting ones.
func sharingBroker(broker impl.Broker) impl.Broker {
	clients := clientsOf(broker)
	count := len(broker.Active)
	broker.Active, broker.Waiting = clients[:count], clients[count:]
	return broker
}

func overwriteClients(clients []impl.Client) {
	for i := range clients[:cap(clients)] {
		clients[:cap(clients)][i] = impl.Client{ID: 55, Requested: 55, Priority: 55}
	}
}

func idsOutOfRange() []int {
	return []int{-1, -2, -1000, 1001, 1 << 32, math.MaxInt, math.MinInt, math.MinInt + 1}
}

func poolsOutOfRange() []int {
	return []int{math.MinInt, -120, -8, -1, 0, 1, 7, 121, 122, 1000, math.MaxInt}
}

func prioritiesOutOfRange() []int {
	return []int{math.MinInt, -9, -1, 10, 11, 100, math.MaxInt}
}

// validBrokers returns brokers with every number that may be at a limit at
// one of its limits.
func validBrokers(t *testing.T) []impl.Broker {
	t.Helper()
	var brokers []impl.Broker
	for _, c := range []struct {
		pool    int
		next    int
		active  string
		waiting string
	}{
		{8, 0, "", ""},
		{120, 0, "", ""},
		{8, 1000, "", ""},
		{120, 1000, "", ""},
		{8, 1, "0.8.0", ""},
		{15, 1, "0.60.9", ""},
		{120, 1000, "999.8.0", ""},
		{8, 2, "0.8.9", "1.60.0"},
		{15, 2, "1.8.9", "0.60.0"},
		{16, 3, "0.8.9 2.9.1", "1.60.0"},
		{16, 2, "1.8.9", ""},
		{23, 1000, "0.8.9 999.9.1", "1.60.0 998.8.9"},
		{24, 6, "1.30.5 2.9.5 3.9.5", "0.60.0 4.8.5 5.8.5"},
		{39, 9, "0.8.0 1.8.0 2.8.0 3.8.0", "4.8.3 5.8.7 6.8.7 7.8.3 8.8.9"},
		{39, 9, "0.8.0 1.8.0 2.8.0 3.8.0", ""},
		{40, 10, "0.8.0 1.20.9 2.8.0 3.8.0 4.60.5", "5.8.0 6.20.9 7.8.0 8.8.0 9.60.5"},
		{120, 10, "5.8.0 6.20.9 7.8.0 8.8.0 9.60.5", "0.8.0 1.20.9 2.8.0 3.8.0 4.60.5"},
		{120, 5, "0.60.0 1.60.0 2.60.0 3.60.0 4.60.0", ""},
		{120, 6, "0.60.0 1.60.0 2.60.0 3.60.0 4.60.0", "5.8.8"},
	} {
		brokers = append(brokers, brokerOf(t, c.pool, c.next, c.active, c.waiting))
	}
	return brokers
}

// invalidBrokers returns brokers with one flaw each.
func invalidBrokers(t *testing.T) []impl.Broker {
	t.Helper()
	brokers := []impl.Broker{{}}
	for _, pool := range poolsOutOfRange() {
		brokers = append(brokers, impl.Broker{Pool: pool}, brokerOf(t, pool, 6, "0.20.5", ""),
			brokerOf(t, pool, 6, "0.8.0 1.8.0 2.8.0 3.8.0 4.8.0", "5.8.0"))
	}
	for _, next := range []int{math.MinInt, -1, 1001, math.MaxInt} {
		brokers = append(brokers, impl.Broker{Pool: 20, NextID: next}, brokerOf(t, 8, next, "0.20.5", "1.20.5"))
	}
	for _, c := range []struct {
		pool    int
		active  string
		waiting string
	}{
		// IDs that are equal, descending, out of range, or in both lists.
		{40, "1.20.5 1.20.5", ""},
		{40, "2.20.5 1.20.5", ""},
		{40, "0.20.5 2.20.5 1.20.5", ""},
		{40, "-1.20.5", ""},
		{40, "6.20.5", ""},
		{40, "0.20.5 6.20.5", ""},
		{40, "0.20.5 1000.20.5", ""},
		{8, "0.20.5", "1.20.5 1.20.5"},
		{8, "0.20.5", "2.20.5 1.20.5"},
		{8, "0.20.5", "-1.20.5"},
		{8, "0.20.5", "1.20.5 6.20.5"},
		{8, "0.20.5", "0.20.5"},
		{8, "3.20.5", "0.20.5 3.20.5 4.20.5"},
		{24, "0.20.5 1.20.5 4.20.5", "2.20.5 3.20.5 4.20.5"},
		// Numbers of a client that are out of range.
		{40, "0.7.5 1.20.5", ""},
		{40, "0.20.5 1.61.5", ""},
		{40, "0.20.-1 1.20.5", ""},
		{40, "0.20.5 1.20.10", ""},
		{8, "0.20.5", "1.7.5 2.20.5"},
		{8, "0.20.5", "1.20.5 2.61.5"},
		{8, "0.20.5", "1.20.-1"},
		{8, "0.20.5", "1.20.10"},
		// More active clients than the capacity.
		{8, "0.8.5 1.8.5", ""},
		{15, "0.8.5 1.8.5", ""},
		{23, "0.8.5 1.8.5 2.8.5", ""},
		{39, "0.8.5 1.8.5 2.8.5 3.8.5 4.8.5", ""},
		{120, "0.8.5 1.8.5 2.8.5 3.8.5 4.8.5 5.8.5", ""},
		{8, "0.8.5 1.8.5", "2.8.5"},
		// A client that waits while there is capacity.
		{8, "", "0.8.5"},
		{16, "0.8.5", "1.8.5"},
		{16, "0.60.5", "1.60.5"},
		{40, "0.8.5 1.8.5 2.8.5 3.8.5", "4.8.5"},
		{120, "0.8.5 1.8.5 2.8.5 3.8.5", "4.8.5"},
	} {
		brokers = append(brokers, brokerOf(t, c.pool, 6, c.active, c.waiting))
	}
	// More waiting clients than may wait.
	return append(brokers,
		brokerOf(t, 8, 7, "0.8.5", "1.8.5 2.8.5 3.8.5 4.8.5 5.8.5 6.8.5"),
		brokerOf(t, 120, 11, "0.8.5 1.8.5 2.8.5 3.8.5 4.8.5", "5.8.5 6.8.5 7.8.5 8.8.5 9.8.5 10.8.5"))
}

// differentBrokers returns brokers of which no two are equal.
func differentBrokers(t *testing.T) []impl.Broker {
	t.Helper()
	brokers := []impl.Broker{{}, {Pool: 1}, {Pool: -1}, {NextID: 1}, {NextID: math.MaxInt}, {Pool: 1, NextID: 1}}
	lists := []string{"", "0.0.0", "1.0.0", "0.1.0", "0.0.1", "0.0.0 0.0.0", "0.0.0 1.0.0", "1.0.0 0.0.0", "0.0.0 0.0.1"}
	for _, active := range lists {
		for _, waiting := range lists {
			if active+waiting != "" {
				brokers = append(brokers, brokerOf(t, 0, 0, active, waiting), brokerOf(t, 8, 0, active, waiting))
			}
		}
	}
	return brokers
}

// brokersNear returns brokers that differ from this one in one number, or in
// one client at the end of a list.
func brokersNear(broker impl.Broker) []impl.Broker {
	var near []impl.Broker
	change := func(edit func(*impl.Broker)) {
		changed := copyBroker(broker)
		edit(&changed)
		near = append(near, changed)
	}
	change(func(b *impl.Broker) { b.Pool++ })
	change(func(b *impl.Broker) { b.NextID++ })
	change(func(b *impl.Broker) { b.Active = append(b.Active, impl.Client{}) })
	change(func(b *impl.Broker) { b.Waiting = append(b.Waiting, impl.Client{}) })
	for place := range clientsOf(broker) {
		change(func(b *impl.Broker) { pointersToClients(b)[place].ID++ })
		change(func(b *impl.Broker) { pointersToClients(b)[place].Requested++ })
		change(func(b *impl.Broker) { pointersToClients(b)[place].Priority++ })
	}
	return near
}
