package tests

import (
	"fmt"
	"math"
	"math/rand/v2"
	"slices"
	"testing"

	"loop.example/g01019/impl"
)

const (
	farthestStop  = 9
	mostTripLoads = 8
)

// badStops are no stops; with some of them products and sums wrap around.
var badStops = []int{-1, -2, -9, farthestStop + 1, farthestStop + 2, 360, 1 << 32, 1<<32 + 1, 1 << 60, 1 << 62, math.MaxInt, math.MaxInt - 1, math.MinInt, math.MinInt + 1}

// badSections are not named by a stop with another one above it.
var badSections = append([]int{farthestStop}, badStops...)

var badTripLoads = []int{-1, -2, -8, mostTripLoads + 1, mostTripLoads + 2, 1 << 32, 1<<32 + 1, math.MaxInt, math.MaxInt - 1, math.MinInt, math.MinInt + 1}

// way returns a Trip with the Id 1 and without Loads.
func way(from int, to int, start int) impl.Trip {
	return impl.Trip{Id: 1, From: from, To: to, Start: start}
}

// trips gives the Ids from 1 on to some Trips.
func trips(list ...impl.Trip) []impl.Trip { return tripsFrom(1, list...) }

func tripsFrom(id int, list ...impl.Trip) []impl.Trip {
	result := []impl.Trip{}
	for i, t := range list {
		t.Id = id + i
		result = append(result, t)
	}
	return result
}

func withTripId(t impl.Trip, id int) impl.Trip {
	t.Id = id
	return t
}

func withLoads(t impl.Trip, loads int) impl.Trip {
	t.Loads = loads
	return t
}

// following returns n Trips on one way, with so many minutes from one start to the next one.
func following(n int, id int, t impl.Trip, apart int) []impl.Trip {
	list := []impl.Trip{}
	for i := range n {
		list = append(list, impl.Trip{Id: id + i, From: t.From, To: t.To, Start: t.Start + i*apart, Loads: t.Loads})
	}
	return list
}

// threeTrips are a plan with Ids that are not one behind the other.
func threeTrips() []impl.Trip {
	return []impl.Trip{{Id: 1, To: 2, Start: 480, Loads: 3}, {Id: 2, From: 5, Start: 480, Loads: 1}, {Id: 4, To: 1, Start: 500, Loads: 2}}
}

// lastStartOf is the last minute at which a Trip on a way may start.
func lastStartOf(from int, to int) int {
	last := lastMinute
	for stop := min(from, to); stop < max(from, to); stop++ {
		last -= 4
	}
	return last
}

// handTrips are lists with all that the chapter names.
func handTrips() [][]impl.Trip {
	lists := [][]impl.Trip{
		nil, {}, threeTrips(), trips(way(0, 9, 0)), trips(way(9, 0, 0)), trips(way(0, 9, 1404)), trips(way(9, 0, 1404)), trips(way(0, 1, 1436)), trips(way(9, 8, 1436)), tripsFrom(99, way(4, 5, 720)), tripsFrom(99, withLoads(way(4, 3, 720), 8)),
		{withTripId(way(0, 1, 100), 1), withTripId(way(0, 1, 104), 99)}, {withTripId(withLoads(way(0, 1, 104), 8), 1), withTripId(withLoads(way(0, 1, 100), 8), 99)},
		// Full lists: that follow each other, that all meet, and that go to and fro.
		following(10, 1, way(0, 9, 0), 4), following(10, 90, withLoads(way(9, 0, 1404), 8), -4), following(10, 1, way(0, 1, 1436), 0), following(10, 90, way(3, 7, 500), 0), following(10, 1, way(3, 7, 500), 3), following(10, 5, way(2, 1, 1400), 4), following(10, 1, way(0, 9, 0), 156),
		slices.Concat(following(5, 1, way(0, 9, 0), 8), following(5, 6, way(9, 0, 4), 8)), slices.Concat(following(5, 1, way(0, 9, 0), 8), following(5, 6, way(9, 0, 3), 8)), slices.Concat(following(5, 1, way(4, 5, 0), 8), following(5, 95, way(5, 4, 4), 8)),
		trips(way(0, 1, 0), way(1, 2, 4), way(2, 3, 8), way(3, 4, 12), way(4, 5, 16), way(5, 6, 20), way(6, 7, 24), way(7, 8, 28), way(8, 9, 32), way(9, 0, 36)),
		trips(way(0, 1, 0), way(1, 2, 0), way(2, 3, 0), way(3, 4, 0), way(4, 5, 0), way(5, 6, 0), way(6, 7, 0), way(7, 8, 0), way(8, 9, 0), way(9, 8, 4)),
		// Trips with Loads that arrive at one stop from both sides.
		trips(withLoads(way(0, 5, 100), 8), withLoads(way(9, 5, 100), 7), withLoads(way(4, 5, 200), 6), withLoads(way(5, 0, 300), 5), withLoads(way(6, 4, 400), 4), withLoads(way(6, 5, 1436), 3)),
		trips(withLoads(way(1, 0, 0), 1), withLoads(way(1, 0, 4), 2), withLoads(way(1, 0, 1436), 4), withLoads(way(8, 9, 0), 1), withLoads(way(8, 9, 4), 2), withLoads(way(8, 9, 1436), 4)),
	}
	for _, m := range meetings {
		lists = append(lists, trips(m.a, m.b), trips(m.b, m.a), trips(way(7, 9, 90), m.a, way(9, 8, 200), m.b))
	}
	return lists
}

// randomTrip returns a Trip with a start from some minute on.
func randomTrip(r *rand.Rand, id int, stops int, lowest int, from int, minutes int) impl.Trip {
	a, b := lowest+r.IntN(stops), lowest+r.IntN(stops-1)
	if b >= a {
		b++
	}
	return impl.Trip{Id: id, From: a, To: b, Start: min(from+r.IntN(minutes), lastStartOf(a, b)), Loads: r.IntN(mostTripLoads + 1)}
}

// randomTrips returns a list with few or all stops and minutes, of which some or no Trips meet.
func randomTrips(r *rand.Rand, most int) []impl.Trip {
	stops := []int{2, 3, 5, 10}[r.IntN(4)]
	lowest, minutes, plan := r.IntN(11-stops), []int{10, 40, 120, 600, 1441}[r.IntN(5)], r.IntN(2) == 0
	from := r.IntN(lastMinute + 2 - minutes)
	list := []impl.Trip{}
	id := 1 + r.IntN(8)
	for range r.IntN(most + 1) {
		t := randomTrip(r, id, stops, lowest, from, minutes)
		if plan && slices.ContainsFunc(list, func(other impl.Trip) bool { return meetBy(journalOf(t), journalOf(other)) }) {
			continue
		}
		list = append(list, t)
		id += 1 + r.IntN(9)
	}
	return list
}

// goodTrips are the lists by hand, and others made by chance.
func goodTrips() [][]impl.Trip {
	lists := handTrips()
	r := rand.New(rand.NewPCG(11, 32))
	for range 300 {
		lists = append(lists, randomTrips(r, impl.MaxTrips))
	}
	return lists
}

// noTrips are Trips with a number that is beyond its limit, or with one stop at both ends.
func noTrips() []impl.Trip {
	list := []impl.Trip{{}, {Id: 1}, {To: 1}, withTripId(way(0, 1, 0), 0), {Id: math.MinInt, From: math.MinInt, To: math.MaxInt, Start: math.MinInt, Loads: math.MaxInt}, way(math.MinInt, math.MinInt+1, 0), way(math.MaxInt, math.MaxInt-1, 0), way(math.MinInt, math.MaxInt, math.MinInt), way(math.MaxInt, math.MinInt, math.MaxInt)}
	for _, id := range badIds {
		list = append(list, withTripId(way(0, 1, 100), id), withTripId(way(9, 0, 0), id))
	}
	for stop := range 10 {
		list = append(list, way(stop, stop, 0), way(stop, stop, 500), way(stop, stop, lastMinute))
	}
	for _, stop := range badStops {
		list = append(list, way(stop, 0, 100), way(0, stop, 100), way(stop, 9, 0), way(9, stop, 0), way(stop, stop, 0), way(stop, stop+1, 0), way(stop, 5, stop))
	}
	for _, start := range badMinutes {
		list = append(list, way(0, 1, start), way(9, 0, start), way(4, 5, start))
	}
	for from := range 10 {
		for to := range 10 {
			if from != to {
				list = append(list, way(from, to, lastStartOf(from, to)+1), way(from, to, lastMinute), way(from, to, -1))
			}
		}
	}
	for _, loads := range badTripLoads {
		list = append(list, withLoads(way(0, 1, 100), loads), withLoads(way(9, 0, 0), loads))
	}
	return list
}

// badTrips are lists that are no Trips.
func badTrips() [][]impl.Trip {
	a, b, c := way(0, 1, 100), way(5, 4, 200), way(9, 8, 300)
	lists := [][]impl.Trip{
		make([]impl.Trip, 1), make([]impl.Trip, 2), make([]impl.Trip, impl.MaxTrips), following(11, 1, a, 4), following(12, 1, b, 9), following(11, 89, c, 8), following(99, 1, a, 4), following(1000, 1, a, 1), following(10, 91, a, 4), following(10, 0, a, 4),
		{a, a}, {a, b}, {withTripId(a, 2), withTripId(b, 1)}, {withTripId(a, 1), withTripId(b, 2), withTripId(c, 2)}, {withTripId(a, 1), withTripId(b, 3), withTripId(c, 2)}, {withTripId(a, 1), withTripId(b, 3), withTripId(c, 1)},
		{withTripId(a, 99), withTripId(b, 98), withTripId(c, 97)}, {withTripId(a, 2), withTripId(b, 2), withTripId(c, 3)}, {withTripId(a, 2), withTripId(b, 1), withTripId(c, 3)}, {withTripId(a, 1), withTripId(b, math.MinInt)}, {withTripId(a, math.MaxInt), withTripId(b, 1)},
	}
	for _, t := range noTrips() {
		lists = append(lists, []impl.Trip{t}, []impl.Trip{withTripId(a, 1), t}, []impl.Trip{t, withTripId(b, 98), withTripId(c, 99)})
		if t.Id == 1 {
			lists = append(lists, []impl.Trip{withTripId(a, 1), withTripId(t, 50), withTripId(c, 99)}, append(following(9, 1, a, 4), withTripId(t, 10)))
		}
	}
	return lists
}

// guardedTrips returns the list as the start of a longer one, and what checks that neither changed.
func guardedTrips(t *testing.T, list []impl.Trip) ([]impl.Trip, func()) {
	backing := append(slices.Clone(list), impl.Trip{Id: 99, To: 9, Loads: 8}, impl.Trip{Id: 99, From: 9, Start: 100, Loads: 8}, impl.Trip{Id: math.MinInt, From: -1, To: 10, Start: math.MaxInt, Loads: 9})
	before := slices.Clone(backing)
	return backing[:len(list)], func() {
		t.Helper()
		if !slices.Equal(backing, before) {
			t.Errorf("%v was changed to %v", before, backing)
		}
	}
}

// fewTrips returns the start of a list that may be long, for messages.
func fewTrips(list []impl.Trip) []impl.Trip { return list[:min(len(list), 12)] }

func wantTrips(t *testing.T, call string, got []impl.Trip, ok bool, want []impl.Trip, wantOK bool) {
	t.Helper()
	if !slices.Equal(got, want) || ok != wantOK {
		t.Errorf("%s: got %v, %v, want %v, %v", call, got, ok, want, wantOK)
	}
}

// journal follows a Trip from minute to minute: on tells the section on which it is from a minute to the next one, counted from 1 on, or 0.
type journal struct {
	trip    impl.Trip
	on      [lastMinute]int8
	arrival int
}

// journalOf moves the Trip by a quarter of a section in each minute.
func journalOf(t impl.Trip) *journal {
	j := &journal{trip: t, arrival: t.Start}
	for at := 4 * t.From; at != 4*t.To; j.arrival++ {
		before := at
		if t.To > t.From {
			at++
		} else {
			at--
		}
		j.on[j.arrival] = int8(1 + min(before, at)/4)
	}
	return j
}

func journalsOf(list []impl.Trip) []*journal {
	journals := []*journal{}
	for _, t := range list {
		journals = append(journals, journalOf(t))
	}
	return journals
}

// meetBy compares the minutes of two Trips, their starts and their arrivals.
func meetBy(a *journal, b *journal) bool {
	for minute := a.trip.Start; minute < a.arrival; minute++ {
		if a.on[minute] == b.on[minute] {
			return true
		}
	}
	started := a.trip.From == b.trip.From && a.trip.Start == b.trip.Start
	arrived := a.trip.To == b.trip.To && a.arrival == b.arrival
	return started || arrived
}

// meetsBy reports whether a Trip meets one of some others.
func meetsBy(t impl.Trip, others []*journal) bool {
	j := journalOf(t)
	return slices.ContainsFunc(others, func(other *journal) bool { return meetBy(j, other) })
}

// pairsBy takes each Trip with each one of a greater Id, by Ids and not by places.
func pairsBy(journals []*journal) [][]int {
	pairs := [][]int{}
	for _, b := range journals {
		for _, a := range journals {
			if a.trip.Id < b.trip.Id && meetBy(a, b) {
				pairs = append(pairs, []int{a.trip.Id, b.trip.Id})
			}
		}
	}
	slices.SortFunc(pairs, slices.Compare[[]int])
	return pairs
}

// firstBy tries all minutes of the day from the last one on.
func firstBy(journals []*journal, t impl.Trip) (int, bool) {
	first, found := 0, false
	for start := lastStartOf(t.From, t.To); start >= t.Start; start-- {
		if !meetsBy(way(t.From, t.To, start), journals) {
			first, found = start, true
		}
	}
	return first, found
}

// sectionsBy reads a journal: a new section is entered where it tells another one.
func sectionsBy(j *journal) [][]int {
	times := [][]int{}
	for minute := j.trip.Start; minute < j.arrival; minute++ {
		if minute == j.trip.Start || j.on[minute] != j.on[minute-1] {
			times = append(times, []int{int(j.on[minute]) - 1, minute, minute})
		}
		times[len(times)-1][2] = minute + 1
	}
	return times
}

// loadsBy goes through the minutes of the day up to one.
func loadsBy(journals []*journal, stop int, minute int) int {
	sum := 0
	for now := range minute + 1 {
		for _, j := range journals {
			if j.arrival == now && j.trip.To == stop {
				sum += j.trip.Loads
			}
		}
	}
	return sum
}

// onBy asks the journals in which section the Trips are.
func onBy(journals []*journal, minute int) []int {
	ids := []int{}
	for _, j := range journals {
		if minute < lastMinute && j.on[minute] > 0 {
			ids = append(ids, j.trip.Id)
		}
	}
	return ids
}

// quietBy counts the minutes without a Trip on a section, from one with a Trip to the next one.
func quietBy(journals []*journal, section int) int {
	longest, quiet, seen := 0, 0, false
	for minute := range lastMinute {
		if slices.ContainsFunc(journals, func(j *journal) bool { return int(j.on[minute]) == section+1 }) {
			if seen {
				longest = max(longest, quiet)
			}
			seen, quiet = true, 0
		} else {
			quiet++
		}
	}
	return longest
}

// addedBy appends a Trip and sorts.
func addedBy(list []impl.Trip, journals []*journal, t impl.Trip) ([]impl.Trip, bool) {
	if len(list) >= impl.MaxTrips || slices.ContainsFunc(list, func(other impl.Trip) bool { return other.Id == t.Id }) || meetsBy(t, journals) {
		return nil, false
	}
	result := append(slices.Clone(list), t)
	slices.SortFunc(result, func(a impl.Trip, b impl.Trip) int { return a.Id - b.Id })
	return result, true
}

// reversedBy puts the reversed Trip between those before it and those behind it.
func reversedBy(list []impl.Trip, journals []*journal, i int) ([]impl.Trip, bool) {
	back := impl.Trip{Id: list[i].Id, From: list[i].To, To: list[i].From, Start: list[i].Start, Loads: list[i].Loads}
	if meetsBy(back, journals[:i]) || meetsBy(back, journals[i+1:]) {
		return nil, false
	}
	return slices.Concat(list[:i], []impl.Trip{back}, list[i+1:]), true
}

// minutesOfNote are the ends of the day, and those at and around each start, passed stop and arrival.
func minutesOfNote(list []impl.Trip) []int {
	minutes := []int{0, 1, 720, lastMinute - 1, lastMinute}
	for _, j := range journalsOf(list) {
		for minute := j.trip.Start - 1; minute <= j.arrival+1; minute++ {
			if (minute < j.trip.Start+2 || minute > j.arrival-2 || minute%7 == 0) && minute >= 0 && minute <= lastMinute {
				minutes = append(minutes, minute)
			}
		}
	}
	slices.Sort(minutes)
	return slices.Compact(minutes)
}

// idNotIn returns the first Id from one on that is not in a list; it may be beyond the limit.
func idNotIn(list []impl.Trip, id int) int {
	for slices.ContainsFunc(list, func(t impl.Trip) bool { return t.Id == id }) {
		id++
	}
	return id
}

// checkPairs holds the Trips that meet, and the quiet sections of a plan, against the minutes.
func checkPairs(t *testing.T, list []impl.Trip, journals []*journal) {
	t.Helper()
	want := pairsBy(journals)
	pairs, ok := impl.MeetingTrips(list)
	wantStacks(t, fmt.Sprint("MeetingTrips ", list), pairs, ok, want, true)
	for section := range farthestStop {
		quiet, ok := impl.LongestQuiet(list, section)
		call := fmt.Sprint("LongestQuiet ", list, section)
		if len(want) > 0 {
			wantInt(t, call, quiet, ok, 0, false)
		} else {
			wantInt(t, call, quiet, ok, quietBy(journals, section), true)
		}
	}
}

// checkDayOf holds what is on the way and what has arrived against the minutes.
func checkDayOf(t *testing.T, list []impl.Trip, journals []*journal) {
	t.Helper()
	for _, minute := range minutesOfNote(list) {
		ids, ok := impl.OnTheWay(list, minute)
		wantInts(t, fmt.Sprint("OnTheWay ", list, minute), ids, ok, onBy(journals, minute), true)
		for stop := range farthestStop + 1 {
			sum, ok := impl.LoadsTo(list, stop, minute)
			wantInt(t, fmt.Sprint("LoadsTo ", list, stop, minute), sum, ok, loadsBy(journals, stop, minute), true)
		}
	}
}

// checkTrip holds the times of a Trip of a list, and the Trip the other way round, against the minutes.
func checkTrip(t *testing.T, list []impl.Trip, journals []*journal, i int) {
	t.Helper()
	minute, ok := impl.ArrivalOf(list[i])
	wantInt(t, fmt.Sprint("ArrivalOf ", list[i]), minute, ok, journals[i].arrival, true)
	times, ok := impl.SectionTimes(list[i])
	wantStacks(t, fmt.Sprint("SectionTimes ", list[i]), times, ok, sectionsBy(journals[i]), true)
	want, wantOK := reversedBy(list, journals, i)
	back, ok := impl.ReverseTrip(list, list[i].Id)
	wantTrips(t, fmt.Sprint("ReverseTrip ", list, list[i].Id), back, ok, want, wantOK)
	if ok {
		again, ok := impl.ReverseTrip(back, list[i].Id)
		_, wantOK := reversedBy(back, journalsOf(back), i)
		if ok != wantOK || ok && !slices.Equal(again, list) {
			t.Error("ReverseTrip", list, list[i].Id, "and back again got", again, ok)
		}
	}
	_, taken := impl.FirstStart(list, list[i])
	_, added := impl.AddTrip(list, list[i])
	if taken || added {
		t.Error(list[i], "is in the list already", list)
	}
}

// checkNew holds a further Trip against every minute of the day, tried one after the other.
func checkNew(t *testing.T, list []impl.Trip, journals []*journal, trip impl.Trip) {
	t.Helper()
	call := fmt.Sprint(" ", list, trip)
	want, wantOK := firstBy(journals, trip)
	start, ok := impl.FirstStart(list, trip)
	wantInt(t, "FirstStart"+call, start, ok, want, wantOK)
	wanted, wantOK := addedBy(list, journals, trip)
	added, done := impl.AddTrip(list, trip)
	wantTrips(t, "AddTrip"+call, added, done, wanted, wantOK)
	if ok && len(list) < impl.MaxTrips {
		trip.Start = start
		added, ok = impl.AddTrip(list, trip)
		wanted, _ = addedBy(list, journals, trip)
		wantTrips(t, "AddTrip at the first start"+call, added, ok, wanted, true)
	}
}

// checkTrips holds every function against a list.
func checkTrips(t *testing.T, r *rand.Rand, list []impl.Trip) {
	t.Helper()
	list, check := guardedTrips(t, list)
	if !impl.AreTrips(list) {
		t.Error("Trips:", list)
	}
	journals := journalsOf(list)
	checkPairs(t, list, journals)
	checkDayOf(t, list, journals)
	for i, trip := range list {
		if !impl.IsTrip(trip) {
			t.Error("a Trip:", trip)
		}
		checkTrip(t, list, journals, i)
		checkNew(t, list, journals, withTripId(trip, idNotIn(list, 1+r.IntN(80))))
	}
	for _, from := range []int{0, 400, lastMinute - 40} {
		checkNew(t, list, journals, randomTrip(r, idNotIn(list, 1+r.IntN(80)), 10, 0, from, 41))
	}
	check()
}

// expectNoTrip wants the zero values of each function with a Trip alone.
func expectNoTrip(t *testing.T, trip impl.Trip) {
	t.Helper()
	if impl.IsTrip(trip) {
		t.Error("no Trip:", trip)
	}
	minute, ok := impl.ArrivalOf(trip)
	wantInt(t, fmt.Sprint("ArrivalOf ", trip), minute, ok, 0, false)
	times, ok := impl.SectionTimes(trip)
	wantStacks(t, fmt.Sprint("SectionTimes ", trip), times, ok, nil, false)
}

// expectNoNew wants the same of those that take a further Trip.
func expectNoNew(t *testing.T, list []impl.Trip, trip impl.Trip) {
	t.Helper()
	call := fmt.Sprint(" ", fewTrips(list), trip)
	start, ok := impl.FirstStart(list, trip)
	wantInt(t, "FirstStart"+call, start, ok, 0, false)
	added, ok := impl.AddTrip(list, trip)
	wantTrips(t, "AddTrip"+call, added, ok, nil, false)
}

func expectNoReverse(t *testing.T, list []impl.Trip, id int) {
	t.Helper()
	back, ok := impl.ReverseTrip(list, id)
	wantTrips(t, fmt.Sprint("ReverseTrip ", fewTrips(list), id), back, ok, nil, false)
}

func expectNoLoads(t *testing.T, list []impl.Trip, stop int, minute int) {
	t.Helper()
	sum, ok := impl.LoadsTo(list, stop, minute)
	wantInt(t, fmt.Sprint("LoadsTo ", fewTrips(list), stop, minute), sum, ok, 0, false)
}

func expectNoOnTheWay(t *testing.T, list []impl.Trip, minute int) {
	t.Helper()
	ids, ok := impl.OnTheWay(list, minute)
	wantInts(t, fmt.Sprint("OnTheWay ", fewTrips(list), minute), ids, ok, nil, false)
}

func expectNoQuiet(t *testing.T, list []impl.Trip, section int) {
	t.Helper()
	quiet, ok := impl.LongestQuiet(list, section)
	wantInt(t, fmt.Sprint("LongestQuiet ", fewTrips(list), section), quiet, ok, 0, false)
}

func TestIsTrip(t *testing.T) {
	for from := range 10 {
		for to := range 10 {
			if from == to {
				continue
			}
			for _, start := range []int{0, 1, 720, lastStartOf(from, to) - 1, lastStartOf(from, to)} {
				for _, id := range []int{1, 2, 98, 99} {
					for _, loads := range []int{0, 1, 7, 8} {
						if trip := (impl.Trip{Id: id, From: from, To: to, Start: start, Loads: loads}); !impl.IsTrip(trip) {
							t.Error("a Trip:", trip)
						}
					}
				}
			}
		}
	}
	for _, trip := range noTrips() {
		expectNoTrip(t, trip)
	}
}

// TestIsTripOfAllNumbers tries each number of a Trip apart from the others.
func TestIsTripOfAllNumbers(t *testing.T) {
	for n := -300; n <= 3000; n++ {
		for _, c := range []struct {
			trip impl.Trip
			want bool
		}{
			{withTripId(way(0, 1, 100), n), n >= 1 && n <= 99}, {withLoads(way(0, 1, 100), n), n >= 0 && n <= 8},
			{way(n, 4, 100), n >= 0 && n <= 9 && n != 4}, {way(4, n, 100), n >= 0 && n <= 9 && n != 4}, {way(n, 0, 100), n >= 1 && n <= 9}, {way(9, n, 100), n >= 0 && n <= 8},
			{way(0, 1, n), n >= 0 && n <= 1436}, {way(5, 4, n), n >= 0 && n <= 1436}, {way(0, 9, n), n >= 0 && n <= 1404}, {way(9, 0, n), n >= 0 && n <= 1404}, {way(2, 7, n), n >= 0 && n <= 1420},
			{way(n, 9, 1424), n >= 5 && n <= 8}, {way(9, n, 1424), n >= 5 && n <= 8}, {way(0, n, 1424), n >= 1 && n <= 4}, {way(n, 5, 1425), n >= 2 && n <= 8 && n != 5},
		} {
			_, arrives := impl.ArrivalOf(c.trip)
			_, passes := impl.SectionTimes(c.trip)
			if impl.IsTrip(c.trip) != c.want || arrives != c.want || passes != c.want || impl.AreTrips([]impl.Trip{c.trip}) != c.want {
				t.Error(c.trip, "is a Trip: not", c.want)
			}
		}
	}
}

func TestAreTrips(t *testing.T) {
	for n := 0; n <= 14; n++ {
		want := n <= impl.MaxTrips
		if impl.AreTrips(following(n, 1, way(0, 9, 0), 4)) != want || impl.AreTrips(following(n, 100-n, withLoads(way(9, 8, 1436), 8), 0)) != want {
			t.Error(n, "are Trips: not", want)
		}
	}
	for a := 1; a <= 99; a++ {
		for b := 1; b <= 99; b++ {
			if impl.AreTrips([]impl.Trip{withTripId(way(0, 1, 9), a), withTripId(way(5, 4, 8), b)}) != (a < b) {
				t.Error("the Ids", a, b, "ascend: not", a < b)
			}
		}
	}
	for _, list := range badTrips() {
		list, check := guardedTrips(t, list)
		if impl.AreTrips(list) {
			t.Error("no Trips:", fewTrips(list))
		}
		check()
	}
}

func TestTrips(t *testing.T) {
	r := rand.New(rand.NewPCG(11, 1))
	for _, list := range goodTrips() {
		checkTrips(t, r, list)
	}
}

func TestSectionTimes(t *testing.T) {
	for _, c := range []struct {
		trip    impl.Trip
		arrival int
		want    [][]int
	}{
		{way(0, 1, 0), 4, [][]int{{0, 0, 4}}}, {way(1, 0, 0), 4, [][]int{{0, 0, 4}}}, {way(8, 9, 1436), 1440, [][]int{{8, 1436, 1440}}}, {way(9, 8, 1436), 1440, [][]int{{8, 1436, 1440}}}, {way(4, 5, 7), 11, [][]int{{4, 7, 11}}}, {way(5, 4, 7), 11, [][]int{{4, 7, 11}}},
		{way(0, 2, 480), 488, [][]int{{0, 480, 484}, {1, 484, 488}}}, {way(2, 0, 480), 488, [][]int{{1, 480, 484}, {0, 484, 488}}}, {way(3, 6, 1), 13, [][]int{{3, 1, 5}, {4, 5, 9}, {5, 9, 13}}}, {way(6, 3, 1), 13, [][]int{{5, 1, 5}, {4, 5, 9}, {3, 9, 13}}},
		{withTripId(withLoads(way(5, 0, 480), 8), 99), 500, [][]int{{4, 480, 484}, {3, 484, 488}, {2, 488, 492}, {1, 492, 496}, {0, 496, 500}}},
		{way(0, 9, 1404), 1440, [][]int{{0, 1404, 1408}, {1, 1408, 1412}, {2, 1412, 1416}, {3, 1416, 1420}, {4, 1420, 1424}, {5, 1424, 1428}, {6, 1428, 1432}, {7, 1432, 1436}, {8, 1436, 1440}}},
		{way(9, 0, 0), 36, [][]int{{8, 0, 4}, {7, 4, 8}, {6, 8, 12}, {5, 12, 16}, {4, 16, 20}, {3, 20, 24}, {2, 24, 28}, {1, 28, 32}, {0, 32, 36}}},
	} {
		minute, ok := impl.ArrivalOf(c.trip)
		wantInt(t, fmt.Sprint("ArrivalOf ", c.trip), minute, ok, c.arrival, true)
		times, ok := impl.SectionTimes(c.trip)
		wantStacks(t, fmt.Sprint("SectionTimes ", c.trip), times, ok, c.want, true)
	}
}

// TestSectionsAreLeftWhenTheNextIsEntered goes through all Trips of the day.
func TestSectionsAreLeftWhenTheNextIsEntered(t *testing.T) {
	for from := range 10 {
		for to := range 10 {
			for start := 0; from != to && start <= lastStartOf(from, to); start++ {
				times, ok := impl.SectionTimes(way(from, to, start))
				minute, arrives := impl.ArrivalOf(way(from, to, start))
				if !ok || !arrives || len(times) != max(from, to)-min(from, to) || times[0][1] != start || times[len(times)-1][2] != minute || minute > lastMinute {
					t.Fatal("SectionTimes", from, to, start, "got", times, ok, "and the arrival", minute, arrives)
				}
				for i, time := range times {
					if len(time) != 3 || time[2] != time[1]+4 || i > 0 && time[1] != times[i-1][2] {
						t.Fatal("SectionTimes", from, to, start, "does not enter a section when it leaves the one before", times)
					}
				}
				if start%97 == 0 {
					wantStacks(t, fmt.Sprint("SectionTimes ", from, to, start), times, ok, sectionsBy(journalOf(way(from, to, start))), true)
				}
			}
		}
	}
}

// meetings are pairs of Trips that just meet, or just do not.
var meetings = []struct {
	a, b impl.Trip
	want bool
}{
	// In the same direction: with just 4 minutes between them, with fewer, and at once.
	{way(0, 1, 100), way(0, 1, 104), false}, {way(0, 1, 100), way(0, 1, 103), true}, {way(0, 1, 100), way(0, 1, 101), true}, {way(0, 1, 100), way(0, 1, 100), true}, {way(0, 1, 100), way(0, 1, 96), false}, {way(0, 1, 100), way(0, 1, 97), true},
	{way(0, 5, 100), way(0, 5, 104), false}, {way(0, 5, 100), way(0, 5, 103), true}, {way(0, 5, 100), way(3, 7, 116), false}, {way(0, 5, 100), way(3, 7, 115), true}, {way(0, 5, 100), way(3, 7, 108), false}, {way(0, 5, 100), way(3, 7, 109), true},
	{way(5, 0, 100), way(5, 0, 104), false}, {way(5, 0, 100), way(5, 0, 103), true}, {way(5, 0, 100), way(2, 1, 108), false}, {way(5, 0, 100), way(2, 1, 109), true}, {way(5, 0, 100), way(2, 1, 115), true}, {way(5, 0, 100), way(2, 1, 116), false},
	// In opposite directions on one section: one enters it when the other one leaves it, or before.
	{way(0, 1, 100), way(1, 0, 104), false}, {way(0, 1, 100), way(1, 0, 103), true}, {way(0, 1, 100), way(1, 0, 100), true}, {way(0, 1, 100), way(1, 0, 97), true}, {way(0, 1, 100), way(1, 0, 96), false}, {way(0, 1, 100), way(1, 0, 105), false},
	{way(4, 5, 100), way(5, 4, 102), true}, {way(8, 9, 1432), way(9, 8, 1436), false}, {way(8, 9, 1432), way(9, 8, 1435), true}, {way(0, 1, 0), way(1, 0, 4), false}, {way(0, 1, 0), way(1, 0, 3), true},
	// They pass each other at a stop in between, or beside it.
	{way(0, 2, 100), way(2, 0, 100), false}, {way(0, 2, 100), way(2, 0, 101), true}, {way(0, 2, 100), way(2, 0, 99), true}, {way(0, 2, 100), way(2, 0, 104), true}, {way(0, 2, 100), way(2, 0, 108), false}, {way(0, 2, 100), way(2, 0, 107), true}, {way(0, 2, 100), way(2, 0, 92), false}, {way(0, 2, 100), way(2, 0, 93), true},
	{way(0, 9, 100), way(9, 0, 100), true}, {way(0, 9, 100), way(9, 0, 104), false}, {way(0, 9, 100), way(9, 0, 96), false}, {way(0, 9, 100), way(9, 0, 103), true}, {way(0, 9, 100), way(9, 0, 105), true}, {way(0, 9, 100), way(9, 0, 128), false}, {way(0, 9, 100), way(9, 0, 132), true}, {way(0, 9, 100), way(9, 0, 136), false}, {way(0, 9, 100), way(9, 0, 135), true}, {way(0, 9, 100), way(9, 0, 137), false},
	{way(1, 5, 100), way(8, 3, 96), false}, {way(1, 5, 100), way(8, 3, 97), true}, {way(1, 5, 100), way(8, 3, 95), true}, {way(1, 5, 100), way(8, 3, 104), false}, {way(1, 5, 100), way(8, 3, 88), false},
	// One starts at the stop and in the minute at which the other one arrives.
	{way(0, 1, 100), way(1, 2, 104), false}, {way(0, 3, 100), way(3, 9, 112), false}, {way(9, 3, 100), way(3, 0, 124), false}, {way(0, 3, 100), way(3, 0, 112), false}, {way(0, 3, 100), way(3, 2, 112), false}, {way(0, 3, 100), way(3, 2, 111), true}, {way(0, 3, 100), way(3, 9, 111), false},
	// Two that start at one stop, in opposite directions, in the same minute or not.
	{way(1, 0, 100), way(1, 2, 100), true}, {way(1, 0, 100), way(1, 2, 101), false}, {way(1, 0, 100), way(1, 2, 99), false}, {way(5, 0, 0), way(5, 9, 0), true}, {way(5, 0, 0), way(5, 9, 1), false}, {way(5, 4, 1436), way(5, 6, 1436), true}, {way(1, 0, 100), way(2, 3, 100), false}, {way(5, 9, 300), way(5, 6, 300), true},
	// Two that arrive at one stop, in opposite directions, in the same minute or not.
	{way(0, 1, 100), way(2, 1, 100), true}, {way(0, 1, 100), way(2, 1, 101), false}, {way(0, 1, 100), way(2, 1, 99), false}, {way(0, 1, 100), way(3, 1, 96), true}, {way(0, 1, 100), way(3, 1, 100), false}, {way(0, 5, 1420), way(9, 5, 1424), true}, {way(0, 5, 1420), way(9, 5, 1423), false}, {way(0, 1, 100), way(3, 2, 100), false},
	// Two that arrive at one stop in the same direction.
	{way(0, 2, 100), way(1, 2, 104), true}, {way(0, 2, 100), way(1, 2, 108), false}, {way(0, 2, 100), way(1, 2, 100), false}, {way(9, 4, 100), way(6, 4, 112), true}, {way(9, 4, 100), way(6, 4, 116), false},
	// One starts or arrives where the other one just passes: its stops in between do not count.
	{way(0, 2, 100), way(1, 0, 104), false}, {way(0, 2, 100), way(1, 0, 103), true}, {way(0, 2, 100), way(2, 1, 100), false}, {way(0, 2, 100), way(2, 1, 101), true}, {way(0, 1, 100), way(2, 0, 100), false}, {way(1, 0, 100), way(0, 2, 96), false}, {way(3, 4, 104), way(5, 2, 100), true}, {way(3, 2, 104), way(2, 5, 100), false},
	// They have no section and no stop in common.
	{way(0, 1, 100), way(5, 6, 100), false}, {way(0, 4, 100), way(9, 5, 100), false}, {way(0, 4, 100), way(5, 9, 100), false}, {way(0, 9, 0), way(0, 9, 1404), false}, {way(0, 9, 0), way(9, 0, 1404), false}, {way(1, 0, 100), way(2, 1, 500), false},
}

// TestMeetingTrips has each pair in both orders, seen from the other end of the track, and at other times.
func TestMeetingTrips(t *testing.T) {
	mirror := func(trip impl.Trip) impl.Trip { return way(9-trip.From, 9-trip.To, trip.Start) }
	for _, m := range meetings {
		want := [][]int{}
		if m.want {
			want = append(want, []int{1, 2})
		}
		for _, list := range [][]impl.Trip{trips(m.a, m.b), trips(m.b, m.a), trips(mirror(m.a), mirror(m.b)), trips(mirror(m.b), mirror(m.a))} {
			pairs, ok := impl.MeetingTrips(list)
			wantStacks(t, fmt.Sprint("MeetingTrips ", list), pairs, ok, want, true)
			list[0].Id, list[1].Id = 7, 99
			list[0].Loads, list[1].Loads = 8, 3
			pairs, ok = impl.MeetingTrips(list)
			if !ok || len(pairs) != len(want) || m.want && !slices.Equal(pairs[0], []int{7, 99}) {
				t.Error("MeetingTrips", list, "got", pairs, ok)
			}
			_, added := impl.AddTrip(list[:1], list[1])
			start, ok := impl.FirstStart(list[1:], list[0])
			if added == m.want || (ok && start == list[0].Start) == m.want {
				t.Error("AddTrip and FirstStart", list, "got", added, start, ok)
			}
		}
	}
}

func TestMeetingTripsOfLists(t *testing.T) {
	for _, c := range []struct {
		list []impl.Trip
		want [][]int
	}{
		{nil, nil}, {trips(way(0, 9, 0)), nil}, {threeTrips(), nil}, {following(10, 1, way(0, 9, 0), 4), nil}, {[]impl.Trip{{Id: 1, To: 2, Start: 480, Loads: 3}, {Id: 2, To: 1, Start: 483}}, [][]int{{1, 2}}},
		{following(3, 97, way(0, 1, 5), 0), [][]int{{97, 98}, {97, 99}, {98, 99}}}, {following(4, 1, way(0, 9, 0), 3), [][]int{{1, 2}, {2, 3}, {3, 4}}}, {following(4, 1, way(0, 9, 0), 2), [][]int{{1, 2}, {2, 3}, {3, 4}}}, {following(4, 1, way(0, 9, 0), 1), [][]int{{1, 2}, {1, 3}, {1, 4}, {2, 3}, {2, 4}, {3, 4}}},
		{[]impl.Trip{withTripId(way(0, 1, 100), 5), withTripId(way(7, 8, 100), 6), withTripId(way(1, 0, 102), 70), withTripId(way(9, 7, 97), 71)}, [][]int{{5, 70}, {6, 71}}}, {trips(way(0, 9, 0), way(9, 0, 0), way(3, 4, 12), way(4, 3, 20), way(6, 5, 16)), [][]int{{1, 2}, {1, 3}, {2, 4}}},
	} {
		pairs, ok := impl.MeetingTrips(c.list)
		wantStacks(t, fmt.Sprint("MeetingTrips ", c.list), pairs, ok, c.want, true)
	}
}

// TestTwoTripsOnAllWays has two Trips on all ways with starts around each other.
func TestTwoTripsOnAllWays(t *testing.T) {
	list := make([]impl.Trip, 2)
	for ways := range 10000 {
		a := impl.Trip{Id: 3, From: ways % 10, To: ways / 10 % 10, Start: 100}
		b := impl.Trip{Id: 8, From: ways / 100 % 10, To: ways / 1000}
		if a.From == a.To || b.From == b.To {
			continue
		}
		journalA := journalOf(a)
		for b.Start = 58; b.Start <= 142; b.Start++ {
			list[0], list[1] = a, b
			pairs, ok := impl.MeetingTrips(list)
			met := meetBy(journalA, journalOf(b))
			if !ok || met != (len(pairs) == 1) || met && !slices.Equal(pairs[0], []int{3, 8}) || len(pairs) > 1 {
				t.Fatal("MeetingTrips", list, "got", pairs, ok, "want", met)
			}
		}
	}
}

// TestPlansHaveNoPairsThatMeet puts drawn Trips into plans, each at its first start.
func TestPlansHaveNoPairsThatMeet(t *testing.T) {
	r := rand.New(rand.NewPCG(11, 11))
	for range 300 {
		stops, minutes := 2+r.IntN(9), []int{1, 9, 40, 1000}[r.IntN(4)]
		plan := []impl.Trip{}
		for len(plan) < impl.MaxTrips {
			trip := randomTrip(r, 1+r.IntN(99), stops, r.IntN(11-stops), r.IntN(200), minutes)
			start, ok := impl.FirstStart(plan, trip)
			if ok != !slices.ContainsFunc(plan, func(other impl.Trip) bool { return other.Id == trip.Id }) {
				t.Fatal("FirstStart", plan, trip, "got", start, ok)
			}
			if !ok {
				continue
			}
			if start > trip.Start {
				_, early := impl.AddTrip(plan, trip)
				trip.Start = start - 1
				_, before := impl.AddTrip(plan, trip)
				if early || before {
					t.Error("AddTrip", plan, trip, "is possible before the first start", start)
				}
			}
			trip.Start = start
			added, ok := impl.AddTrip(plan, trip)
			pairs, done := impl.MeetingTrips(added)
			if !ok || !done || len(added) != len(plan)+1 || len(pairs) > 0 || len(pairsBy(journalsOf(added))) > 0 {
				t.Fatal("AddTrip", plan, trip, "got", added, ok, "with pairs that meet", pairs)
			}
			plan = added
		}
		for id := 1; id <= 99; id++ {
			if back, ok := impl.ReverseTrip(plan, id); ok && len(pairsBy(journalsOf(back))) > 0 {
				t.Error("ReverseTrip", plan, id, "got", back, "with pairs that meet")
			}
		}
		for section := range farthestStop {
			if quiet, ok := impl.LongestQuiet(plan, section); !ok || quiet < 0 || quiet > lastMinute-8 {
				t.Error("LongestQuiet", plan, section, "got", quiet, ok)
			}
		}
	}
}

func TestFirstStart(t *testing.T) {
	full := following(10, 1, way(0, 9, 0), 4)
	for _, c := range []struct {
		list []impl.Trip
		trip impl.Trip
		want int
		ok   bool
	}{
		// Its own Start.
		{nil, way(0, 9, 0), 0, true}, {nil, way(0, 9, 1404), 1404, true}, {nil, way(9, 8, 1436), 1436, true}, {nil, withTripId(withLoads(way(3, 5, 700), 8), 99), 700, true}, {threeTrips(), withTripId(way(6, 9, 480), 3), 480, true}, {tripsFrom(2, way(0, 1, 100)), way(0, 1, 96), 96, true}, {tripsFrom(2, way(0, 1, 100)), way(0, 1, 104), 104, true}, {tripsFrom(2, way(0, 1, 100)), way(1, 0, 104), 104, true},
		{threeTrips(), withTripId(way(1, 0, 481), 9), 484, true}, {threeTrips(), withTripId(way(1, 0, 484), 9), 484, true}, {threeTrips(), withTripId(way(1, 0, 480), 9), 484, true}, {threeTrips(), withTripId(way(1, 0, 485), 9), 485, true}, {threeTrips(), withTripId(way(1, 0, 476), 9), 476, true},
		// Just free between two others, and not quite.
		{tripsFrom(2, way(0, 1, 100), way(0, 1, 108)), way(0, 1, 97), 104, true}, {tripsFrom(2, way(0, 1, 108), way(0, 1, 100)), way(0, 1, 100), 104, true}, {tripsFrom(2, way(0, 1, 100), way(0, 1, 107)), way(0, 1, 97), 111, true}, {tripsFrom(2, way(0, 1, 100), way(0, 1, 108)), way(1, 0, 97), 104, true}, {tripsFrom(2, way(0, 1, 100), way(0, 1, 107)), way(1, 0, 97), 111, true},
		{tripsFrom(2, way(0, 1, 100), way(0, 1, 108)), way(0, 1, 105), 112, true}, {tripsFrom(2, way(0, 1, 100), way(0, 1, 104), way(0, 1, 108), way(0, 1, 116)), way(0, 1, 99), 112, true}, {tripsFrom(2, way(2, 6, 100), way(2, 6, 104), way(2, 6, 112)), way(0, 9, 90), 100, true}, {tripsFrom(2, way(2, 6, 100), way(2, 6, 104), way(2, 6, 111)), way(0, 9, 90), 107, true},
		{tripsFrom(2, way(0, 9, 0)), way(9, 0, 0), 4, true}, {tripsFrom(2, way(0, 9, 0)), way(9, 0, 5), 12, true}, {tripsFrom(2, way(0, 9, 0)), way(9, 0, 29), 36, true}, {tripsFrom(2, way(0, 9, 0)), way(9, 0, 13), 20, true},
		// At a stop, only what starts there or arrives there in the same minute is in its way.
		{tripsFrom(2, way(1, 0, 100)), way(1, 2, 100), 101, true}, {tripsFrom(2, way(1, 0, 100)), way(1, 2, 99), 99, true}, {tripsFrom(2, way(0, 1, 100)), way(2, 1, 100), 101, true}, {tripsFrom(2, way(0, 1, 100)), way(2, 1, 99), 99, true}, {tripsFrom(2, way(0, 1, 100)), way(1, 2, 104), 104, true}, {tripsFrom(2, way(0, 2, 100)), way(1, 0, 104), 104, true},
		{tripsFrom(2, way(1, 0, 100), way(1, 0, 101), way(1, 0, 102)), way(1, 2, 100), 103, true}, {tripsFrom(2, way(0, 1, 100), way(5, 1, 89)), way(2, 1, 100), 105, true},
		// The last one of the day, and none.
		{tripsFrom(2, way(0, 1, 1432)), way(0, 1, 1430), 1436, true}, {tripsFrom(2, way(0, 1, 1433)), way(0, 1, 1430), 0, false}, {tripsFrom(2, way(0, 1, 1433)), way(0, 1, 1429), 1429, true}, {tripsFrom(2, way(0, 1, 1436)), way(0, 1, 1433), 0, false}, {tripsFrom(2, way(0, 1, 1436)), way(0, 1, 1432), 1432, true}, {tripsFrom(2, way(0, 1, 1436)), way(0, 1, 1436), 0, false}, {tripsFrom(2, way(0, 1, 1436)), way(1, 0, 1436), 0, false}, {tripsFrom(2, way(0, 1, 1436)), way(2, 1, 1436), 0, false}, {tripsFrom(2, way(0, 1, 1436)), way(2, 1, 1435), 1435, true},
		{tripsFrom(2, way(0, 9, 1400)), way(0, 9, 1397), 1404, true}, {tripsFrom(2, way(0, 9, 1401)), way(0, 9, 1398), 0, false}, {tripsFrom(2, way(0, 9, 1404)), way(9, 0, 1401), 0, false}, {tripsFrom(2, way(9, 8, 1432)), way(8, 9, 1429), 1436, true}, {tripsFrom(2, way(9, 8, 1433)), way(8, 9, 1430), 0, false}, {tripsFrom(2, way(8, 7, 1436)), way(8, 9, 1436), 0, false},
		// Full lists, and lists that are no plan.
		{full, withTripId(way(0, 9, 0), 11), 40, true}, {full, withTripId(way(9, 0, 0), 99), 72, true}, {full, withTripId(way(1, 0, 0), 99), 40, true}, {full, withTripId(way(0, 1, 0), 10), 0, false}, {full, withTripId(way(0, 1, 800), 1), 0, false}, {following(10, 1, way(0, 9, 0), 0), withTripId(way(0, 9, 0), 50), 4, true}, {following(10, 1, way(0, 1, 1436), 0), withTripId(way(0, 1, 1433), 50), 0, false},
		// An Id that is in the list.
		{threeTrips(), withTripId(way(6, 9, 480), 1), 0, false}, {threeTrips(), withTripId(way(6, 9, 480), 2), 0, false}, {threeTrips(), withTripId(way(6, 9, 480), 4), 0, false}, {trips(way(0, 1, 5)), way(0, 1, 5), 0, false}, {trips(way(0, 1, 5)), way(8, 9, 900), 0, false},
	} {
		start, ok := impl.FirstStart(c.list, c.trip)
		wantInt(t, fmt.Sprint("FirstStart ", c.list, c.trip), start, ok, c.want, c.ok)
	}
}

// TestFirstStartOfDrawnTrips draws days with little room, near to their ends too.
func TestFirstStartOfDrawnTrips(t *testing.T) {
	r := rand.New(rand.NewPCG(11, 7))
	for range 600 {
		stops, minutes := 2+r.IntN(9), []int{20, 60, 100}[r.IntN(3)]
		lowest, from := r.IntN(11-stops), []int{0, 700, lastMinute - minutes}[r.IntN(3)]
		list := []impl.Trip{}
		for i := range impl.MaxTrips - r.IntN(4) {
			list = append(list, randomTrip(r, 2+9*i, stops, lowest, from, minutes))
		}
		trip := randomTrip(r, []int{1, 19, 99}[r.IntN(3)], stops, lowest, from, minutes)
		checkNew(t, list, journalsOf(list), trip)
	}
}

func TestAddTrip(t *testing.T) {
	a, b, c := way(0, 1, 100), way(5, 4, 200), way(9, 8, 300)
	nine, ten := following(9, 50, a, 4), following(10, 50, a, 4)
	for _, x := range []struct {
		list []impl.Trip
		trip impl.Trip
		want []impl.Trip
	}{
		// At the start, between two others and at the end.
		{nil, a, []impl.Trip{a}}, {[]impl.Trip{}, withTripId(withLoads(c, 8), 99), []impl.Trip{withTripId(withLoads(c, 8), 99)}}, {tripsFrom(2, b, c), a, trips(a, b, c)}, {[]impl.Trip{withTripId(a, 1), withTripId(c, 3)}, withTripId(b, 2), trips(a, b, c)}, {trips(a, b), withTripId(c, 3), trips(a, b, c)},
		{[]impl.Trip{withTripId(a, 5), withTripId(b, 50)}, withTripId(c, 49), []impl.Trip{withTripId(a, 5), withTripId(c, 49), withTripId(b, 50)}}, {threeTrips(), impl.Trip{Id: 3, From: 1, Start: 484}, slices.Insert(threeTrips(), 2, impl.Trip{Id: 3, From: 1, Start: 484})},
		// An Id that is in the list, on the same way or on one that is free.
		{trips(a, b), a, nil}, {trips(a, b), withTripId(c, 2), nil}, {trips(a, b), withTripId(c, 1), nil}, {trips(a), withTripId(way(0, 1, 500), 1), nil}, {threeTrips(), withTripId(c, 4), nil}, {threeTrips(), withTripId(way(1, 0, 500), 4), nil},
		// It meets another one, or just does not.
		{threeTrips(), impl.Trip{Id: 3, From: 1, Start: 483}, nil}, {trips(a), withTripId(a, 2), nil}, {trips(a), withTripId(way(0, 1, 103), 2), nil}, {trips(a), withTripId(way(1, 0, 103), 2), nil}, {trips(a), withTripId(way(2, 1, 100), 2), nil}, {trips(a), withTripId(way(0, 9, 97), 2), nil}, {trips(a), withTripId(way(1, 0, 104), 2), trips(a, way(1, 0, 104))}, {trips(a), withTripId(way(1, 9, 104), 2), trips(a, way(1, 9, 104))},
		{trips(c, b, a), withTripId(way(0, 1, 101), 99), nil}, {trips(a, b, c), withTripId(way(8, 9, 303), 99), nil}, {trips(way(1, 2, 100)), withTripId(way(1, 0, 100), 2), nil}, {trips(way(1, 2, 100)), withTripId(way(1, 0, 101), 2), trips(way(1, 2, 100), way(1, 0, 101))},
		// Others meet, but it does not.
		{following(5, 1, a, 0), withTripId(c, 9), append(following(5, 1, a, 0), withTripId(c, 9))}, {following(5, 1, a, 0), withTripId(way(0, 1, 103), 9), nil},
		// The tenth one, and one more.
		{nine, withTripId(b, 1), append([]impl.Trip{withTripId(b, 1)}, nine...)}, {nine, withTripId(b, 99), append(slices.Clone(nine), withTripId(b, 99))}, {ten, withTripId(b, 1), nil}, {ten, withTripId(b, 99), nil}, {ten, withTripId(b, 55), nil}, {nine, withTripId(b, 55), nil}, {nine, withTripId(a, 99), nil},
	} {
		list, check := guardedTrips(t, x.list)
		added, ok := impl.AddTrip(list, x.trip)
		wantTrips(t, fmt.Sprint("AddTrip ", x.list, x.trip), added, ok, x.want, x.want != nil)
		check()
	}
}

func TestLoadsTo(t *testing.T) {
	both := trips(withLoads(way(0, 5, 100), 8), withLoads(way(9, 5, 100), 7), withLoads(way(5, 0, 300), 5), withLoads(way(6, 4, 400), 4), withLoads(way(6, 5, 1436), 3), way(4, 5, 500))
	full := following(10, 1, withLoads(way(0, 9, 0), 8), 4)
	for _, c := range []struct {
		list         []impl.Trip
		stop, minute int
		want         int
	}{
		{nil, 0, 0, 0}, {nil, 9, lastMinute, 0}, {threeTrips(), 2, 488, 3}, {threeTrips(), 2, 487, 0}, {threeTrips(), 2, 489, 3}, {threeTrips(), 2, lastMinute, 3}, {threeTrips(), 0, 499, 0}, {threeTrips(), 0, 500, 1}, {threeTrips(), 1, 503, 0}, {threeTrips(), 1, 504, 2}, {threeTrips(), 5, lastMinute, 0}, {threeTrips(), 3, lastMinute, 0},
		{both, 5, 115, 0}, {both, 5, 116, 7}, {both, 5, 119, 7}, {both, 5, 120, 15}, {both, 5, 300, 15}, {both, 5, 408, 15}, {both, 5, 504, 15}, {both, 5, 1439, 15}, {both, 5, lastMinute, 18}, {both, 0, 319, 0}, {both, 0, 320, 5}, {both, 0, lastMinute, 5}, {both, 4, 407, 0}, {both, 4, 408, 4}, {both, 9, lastMinute, 0}, {both, 6, lastMinute, 0}, {both, 5, 0, 0}, {both, 8, 104, 0}, {both, 1, 200, 0},
		{full, 9, 35, 0}, {full, 9, 36, 8}, {full, 9, 40, 16}, {full, 9, 71, 72}, {full, 9, 72, 80}, {full, 9, lastMinute, 80}, {full, 0, lastMinute, 0}, {full, 8, lastMinute, 0}, {following(10, 1, withLoads(way(1, 0, 0), 8), 0), 0, 4, 80}, {following(10, 1, withLoads(way(1, 0, 0), 8), 0), 0, 3, 0}, {trips(way(1, 0, 7)), 0, lastMinute, 0},
	} {
		sum, ok := impl.LoadsTo(c.list, c.stop, c.minute)
		wantInt(t, fmt.Sprint("LoadsTo ", c.list, c.stop, c.minute), sum, ok, c.want, true)
	}
}

func TestOnTheWay(t *testing.T) {
	full := following(10, 90, way(9, 0, 0), 4)
	for _, c := range []struct {
		list   []impl.Trip
		minute int
		want   []int
	}{
		{nil, 0, nil}, {nil, lastMinute, nil}, {threeTrips(), 479, nil}, {threeTrips(), 480, []int{1, 2}}, {threeTrips(), 487, []int{1, 2}}, {threeTrips(), 488, []int{2}}, {threeTrips(), 489, []int{2}}, {threeTrips(), 499, []int{2}}, {threeTrips(), 500, []int{4}}, {threeTrips(), 503, []int{4}}, {threeTrips(), 504, nil}, {threeTrips(), 0, nil}, {threeTrips(), lastMinute, nil},
		{trips(way(0, 1, 0)), 0, []int{1}}, {trips(way(0, 1, 0)), 3, []int{1}}, {trips(way(0, 1, 0)), 4, nil}, {trips(way(9, 8, 1436)), 1435, nil}, {trips(way(9, 8, 1436)), 1436, []int{1}}, {trips(way(9, 8, 1436)), 1439, []int{1}}, {trips(way(9, 8, 1436)), lastMinute, nil},
		{full, 0, []int{90}}, {full, 3, []int{90}}, {full, 4, []int{90, 91}}, {full, 35, []int{90, 91, 92, 93, 94, 95, 96, 97, 98}}, {full, 36, []int{91, 92, 93, 94, 95, 96, 97, 98, 99}}, {full, 71, []int{99}}, {full, 72, nil}, {following(10, 1, way(0, 9, 50), 0), 50, upTo(10)}, {following(10, 1, way(0, 9, 50), 0), 85, upTo(10)}, {following(10, 1, way(0, 9, 50), 0), 86, nil}, {following(10, 1, way(0, 9, 50), 0), 49, nil},
		{trips(way(0, 1, 200), way(0, 1, 100), way(5, 6, 202)), 203, []int{1, 3}}, {trips(way(0, 1, 200), way(0, 1, 100), way(5, 6, 202)), 103, []int{2}},
	} {
		ids, ok := impl.OnTheWay(c.list, c.minute)
		wantInts(t, fmt.Sprint("OnTheWay ", c.list, c.minute), ids, ok, c.want, true)
	}
}

func TestLongestQuiet(t *testing.T) {
	for _, c := range []struct {
		list    []impl.Trip
		section int
		want    int
		ok      bool
	}{
		// No Trips on it, one, and two that just follow.
		{nil, 0, 0, true}, {nil, 8, 0, true}, {trips(way(0, 1, 700)), 0, 0, true}, {trips(way(0, 1, 700)), 1, 0, true}, {trips(way(0, 9, 700)), 8, 0, true}, {trips(way(0, 1, 100), way(0, 1, 104)), 0, 0, true}, {trips(way(0, 1, 100), way(1, 0, 104)), 0, 0, true}, {trips(way(0, 1, 104), way(1, 0, 100)), 0, 0, true}, {following(10, 1, way(0, 9, 0), 4), 4, 0, true},
		// Two with a gap, on the first and on the last section, and from end to end of the day.
		{trips(way(0, 1, 100), way(0, 1, 105)), 0, 1, true}, {trips(way(0, 1, 112), way(1, 0, 100)), 0, 8, true}, {trips(way(8, 9, 100), way(9, 8, 112)), 8, 8, true}, {trips(way(0, 1, 0), way(0, 1, 1436)), 0, 1432, true}, {trips(way(9, 8, 1436), way(9, 8, 0)), 8, 1432, true}, {threeTrips(), 0, 12, true}, {threeTrips(), 1, 4, true}, {threeTrips(), 2, 0, true}, {threeTrips(), 4, 0, true}, {threeTrips(), 5, 0, true}, {threeTrips(), 8, 0, true},
		// More than two, not in the order of their Ids, with the longest gap first, between and last.
		{trips(way(3, 4, 300), way(3, 4, 100), way(4, 3, 200), way(3, 4, 310)), 3, 96, true}, {trips(way(3, 4, 100), way(3, 4, 110), way(4, 3, 170), way(3, 4, 180)), 3, 56, true}, {trips(way(4, 3, 900), way(3, 4, 100), way(4, 3, 104), way(3, 4, 180)), 3, 716, true}, {trips(way(3, 4, 100), way(3, 4, 180), way(4, 3, 184), way(3, 4, 188)), 3, 76, true},
		{trips(way(0, 9, 0), way(9, 0, 4)), 8, 24, true}, {trips(way(0, 9, 0), way(9, 0, 4)), 4, 0, true}, {trips(way(0, 9, 0), way(9, 0, 4)), 3, 8, true}, {trips(way(0, 9, 0), way(9, 0, 4)), 0, 32, true}, {trips(way(2, 5, 100), way(8, 3, 200), way(0, 3, 300)), 2, 204, true}, {trips(way(2, 5, 100), way(8, 3, 200), way(0, 3, 300)), 4, 100, true}, {trips(way(2, 5, 100), way(8, 3, 200), way(0, 3, 300)), 6, 0, true},
		// No plans, whichever section is asked for.
		{trips(way(0, 1, 100), way(0, 1, 103)), 0, 0, false}, {trips(way(0, 1, 100), way(0, 1, 103)), 5, 0, false}, {trips(way(0, 1, 100), way(2, 1, 100)), 0, 0, false}, {trips(way(0, 1, 100), way(2, 1, 100)), 1, 0, false}, {trips(way(1, 0, 100), way(1, 2, 100), way(1, 0, 500)), 0, 0, false}, {trips(way(1, 0, 100), way(1, 0, 500), way(7, 8, 500), way(8, 7, 502)), 0, 0, false}, {following(10, 1, way(3, 7, 500), 3), 1, 0, false},
	} {
		quiet, ok := impl.LongestQuiet(c.list, c.section)
		wantInt(t, fmt.Sprint("LongestQuiet ", c.list, c.section), quiet, ok, c.want, c.ok)
	}
}

func TestReverseTrip(t *testing.T) {
	a := withLoads(way(2, 1, 100), 5)
	back := withLoads(way(1, 2, 100), 5)
	for _, c := range []struct {
		list []impl.Trip
		id   int
		want []impl.Trip
	}{
		{trips(a), 1, trips(back)}, {trips(way(0, 9, 1404)), 1, trips(way(9, 0, 1404))}, {tripsFrom(99, way(9, 8, 1436)), 99, tripsFrom(99, way(8, 9, 1436))}, {trips(a), 2, nil}, {nil, 1, nil}, {threeTrips(), 3, nil}, {threeTrips(), 4, append(threeTrips()[:2], impl.Trip{Id: 4, From: 1, Start: 500, Loads: 2})}, {threeTrips(), 2, nil}, {threeTrips(), 1, append([]impl.Trip{{Id: 1, From: 2, Start: 480, Loads: 3}}, threeTrips()[1:]...)},
		// It arrives where and when another one does, or a minute before or after.
		{trips(a, way(3, 2, 100)), 1, nil}, {trips(a, way(3, 2, 101)), 1, trips(back, way(3, 2, 101))}, {trips(a, way(3, 2, 99)), 1, trips(back, way(3, 2, 99))}, {trips(way(5, 2, 92), a), 2, nil}, {trips(way(5, 2, 93), a), 2, trips(way(5, 2, 93), back)},
		// It starts where and when another one does, or where one arrives.
		{trips(a, way(1, 0, 100)), 1, nil}, {trips(a, way(1, 0, 101)), 1, trips(back, way(1, 0, 101))}, {trips(a, way(0, 1, 96)), 1, trips(back, way(0, 1, 96))}, {trips(a, way(2, 3, 104)), 1, trips(back, way(2, 3, 104))}, {trips(a, way(2, 1, 104)), 1, trips(back, way(2, 1, 104))}, {trips(a, way(1, 2, 96)), 1, trips(back, way(1, 2, 96))},
		// It meets another one on a section only then, or only before.
		{trips(way(0, 3, 100), way(2, 3, 100)), 1, nil}, {trips(way(0, 3, 100), way(2, 3, 104)), 1, trips(way(3, 0, 100), way(2, 3, 104))}, {trips(way(0, 3, 100), way(3, 2, 108)), 1, trips(way(3, 0, 100), way(3, 2, 108))}, {trips(way(0, 3, 100), way(0, 3, 100)), 2, nil}, {trips(way(0, 2, 100), way(0, 2, 100)), 2, trips(way(0, 2, 100), way(2, 0, 100))}, {trips(way(0, 2, 100), way(2, 0, 100)), 2, nil},
		// Others meet, but it does not.
		{trips(a, way(8, 9, 50), way(8, 9, 50)), 1, trips(back, way(8, 9, 50), way(8, 9, 50))}, {trips(a, way(8, 9, 50), way(8, 9, 50)), 2, nil}, {trips(a, way(7, 9, 50), way(7, 9, 50)), 3, trips(a, way(7, 9, 50), way(9, 7, 50))},
	} {
		list, check := guardedTrips(t, c.list)
		got, ok := impl.ReverseTrip(list, c.id)
		wantTrips(t, fmt.Sprint("ReverseTrip ", c.list, c.id), got, ok, c.want, c.want != nil)
		check()
	}
}

func TestNoTrips(t *testing.T) {
	for _, list := range badTrips() {
		list, check := guardedTrips(t, list)
		pairs, ok := impl.MeetingTrips(list)
		wantStacks(t, fmt.Sprint("MeetingTrips ", fewTrips(list)), pairs, ok, nil, false)
		for _, trip := range []impl.Trip{{}, way(6, 7, 800), withTripId(way(6, 7, 800), 20), withTripId(way(7, 6, 1436), 99)} {
			expectNoNew(t, list, trip)
		}
		for _, trip := range fewTrips(list) {
			expectNoNew(t, list, trip)
			expectNoReverse(t, list, trip.Id)
		}
		for _, id := range []int{0, 1, 2, 99} {
			expectNoReverse(t, list, id)
		}
		for _, minute := range []int{0, 100, 204, lastMinute} {
			expectNoOnTheWay(t, list, minute)
			for _, stop := range []int{-1, 0, 1, 8, 9} {
				expectNoLoads(t, list, stop, minute)
			}
		}
		for section := -1; section <= farthestStop; section++ {
			expectNoQuiet(t, list, section)
		}
		check()
	}
}

// TestReversesOfNoTrips has Trips and lists that would be valid the other way round or without some.
func TestReversesOfNoTrips(t *testing.T) {
	for _, trip := range noTrips() {
		list := []impl.Trip{trip}
		expectNoReverse(t, list, trip.Id)
		expectNoNew(t, nil, trip)
		expectNoNew(t, following(9, 2, way(0, 1, 1000), 4), trip)
		if trip.Id == 1 {
			expectNoNew(t, threeTrips(), withTripId(trip, 50))
		}
	}
	expectNoReverse(t, following(11, 1, way(0, 1, 100), 4), 11)
	expectNoReverse(t, []impl.Trip{withTripId(way(0, 1, 100), 2), withTripId(way(0, 1, 200), 1)}, 1)
}

func TestTramwayWithWrongNumbers(t *testing.T) {
	for _, list := range handTrips()[:30] {
		list, check := guardedTrips(t, list)
		for _, minute := range badMinutes {
			expectNoOnTheWay(t, list, minute)
			for stop := range farthestStop + 1 {
				expectNoLoads(t, list, stop, minute)
			}
		}
		for _, stop := range badStops {
			for _, minute := range []int{0, 500, lastMinute} {
				expectNoLoads(t, list, stop, minute)
			}
		}
		for _, section := range badSections {
			expectNoQuiet(t, list, section)
		}
		ids := slices.Clone(badIds)
		for id := 1; id <= 99; id++ {
			if idNotIn(list, id) == id {
				ids = append(ids, id)
			}
		}
		for _, id := range ids {
			expectNoReverse(t, list, id)
		}
		for _, trip := range noTrips() {
			expectNoNew(t, list, trip)
		}
		check()
	}
}

// expectRowsApart writes into each inner list, also behind its end, and then into the outer one.
func expectRowsApart(t *testing.T, call string, rows func() [][]int) {
	t.Helper()
	want := [][]int{}
	for _, row := range rows() {
		want = append(want, slices.Clone(row))
	}
	got, other := rows(), rows()
	for i := range got {
		scribble(got[i])
		wantStacks(t, fmt.Sprint(call, " behind the list ", i), got[i+1:], true, want[i+1:], true)
	}
	clear(got[:cap(got)])
	wantStacks(t, call+" after another result was written into", other, true, want, true)
	wantStacks(t, call+" again", rows(), true, want, true)
}

// expectTripsApart writes into a result and then into the argument.
func expectTripsApart(t *testing.T, call string, list []impl.Trip, change func(list []impl.Trip) ([]impl.Trip, bool)) {
	t.Helper()
	argument, check := guardedTrips(t, list)
	got, ok := change(argument)
	other, _ := change(argument)
	want := slices.Clone(got)
	clear(got[:cap(got)])
	check()
	wantTrips(t, call+" after another result was written into", other, ok, want, ok)
	clear(argument)
	wantTrips(t, call+" after its argument was written into", other, ok, want, ok)
}

// TestTramwayResultsAreApart writes into the results, also behind their ends, and into the arguments.
func TestTramwayResultsAreApart(t *testing.T) {
	for _, list := range goodTrips() {
		argument, check := guardedTrips(t, list)
		call := fmt.Sprint(" ", list)
		expectRowsApart(t, "MeetingTrips"+call, func() [][]int { rows, _ := impl.MeetingTrips(argument); return rows })
		for _, trip := range list {
			expectRowsApart(t, fmt.Sprint("SectionTimes ", trip), func() [][]int { rows, _ := impl.SectionTimes(trip); return rows })
			expectTripsApart(t, fmt.Sprint("ReverseTrip", call, trip.Id), list, func(l []impl.Trip) ([]impl.Trip, bool) { return impl.ReverseTrip(l, trip.Id) })
			ids, ok := impl.OnTheWay(argument, trip.Start)
			other, _ := impl.OnTheWay(argument, trip.Start)
			want := slices.Clone(ids)
			scribble(ids)
			wantInts(t, fmt.Sprint("OnTheWay", call, trip.Start), other, ok, want, true)
		}
		for _, id := range []int{1, 40, 99} {
			trip := withTripId(way(6, 9, 1100), idNotIn(list, id))
			expectTripsApart(t, fmt.Sprint("AddTrip", call, trip), list, func(l []impl.Trip) ([]impl.Trip, bool) { return impl.AddTrip(l, trip) })
		}
		check()
		pairs, ok := impl.MeetingTrips(argument)
		clear(argument)
		wantStacks(t, "MeetingTrips after its argument was written into"+call, pairs, ok, pairsBy(journalsOf(list)), true)
	}
}
