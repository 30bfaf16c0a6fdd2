package tests

import (
	"fmt"
	"math"
	"math/rand/v2"
	"slices"
	"testing"

	"loop.example/g01019/impl"
)

const lastDay = 4000

// badGangs are neither Gangs nor none.
var badGangs = []int{-1, -2, 6, 7, 12, 1<<32 + 1, math.MaxInt, math.MaxInt - 1, math.MinInt, math.MinInt + 1}

// badDays are no days.
var badDays = []int{-1, -2, -7, lastDay + 1, lastDay + 2, lastDay + 7, 1<<32 + 7, math.MaxInt, math.MaxInt - 1, math.MinInt, math.MinInt + 1}

// badLoads are beyond the limits of DaysToRake.
var badLoads = []int{0, -1, -2, -10000, 10001, 10002, 1<<32 + 1, math.MaxInt, math.MaxInt - 1, math.MinInt, math.MinInt + 1}

// driver returns a Worker who can drive a Cart.
func driver(id int, gang int, rakes int, free int) impl.Worker {
	return impl.Worker{Id: id, Gang: gang, Rakes: rakes, Cart: true, Free: free}
}

// walker returns a Worker who cannot drive a Cart.
func walker(id int, gang int, rakes int, free int) impl.Worker {
	return impl.Worker{Id: id, Gang: gang, Rakes: rakes, Free: free}
}

func crew(list ...impl.Worker) []impl.Worker { return list }

// drivers returns n Workers in one Gang, with one Free day, from an Id on.
func drivers(n int, id int, gang int, rakes int, free int) []impl.Worker {
	list := []impl.Worker{}
	for i := range n {
		list = append(list, driver(id+i, gang, rakes, free))
	}
	return list
}

// threeGangs has Gangs of three, of two and of one, and Workers in none.
func threeGangs() []impl.Worker {
	return crew(walker(2, 4, 9, 2), driver(3, 1, 20, 6), walker(7, 1, 11, 0), driver(8, 0, 50, 3), driver(20, 4, 7, 2),
		walker(21, 1, 3, 6), driver(50, 5, 50, 1), walker(99, 0, 1, 0))
}

// handCrews are lists with all that the chapter names.
func handCrews() [][]impl.Worker {
	return [][]impl.Worker{
		nil, {}, threeGangs(),
		crew(driver(1, 1, 1, 0)), crew(walker(99, 5, 50, 6)), crew(driver(1, 0, 1, 0)), crew(driver(1, 0, 50, 6), driver(2, 0, 50, 6)),
		// Gangs of two, of whom one, both or none can drive a Cart.
		crew(driver(1, 1, 10, 0), walker(2, 1, 12, 1)), crew(walker(1, 1, 10, 0), driver(2, 1, 12, 1)), crew(driver(1, 2, 10, 3), driver(2, 2, 12, 4)),
		crew(driver(1, 3, 10, 5), driver(99, 3, 12, 5)), crew(walker(1, 4, 10, 5), walker(99, 4, 12, 5)), crew(driver(1, 1, 10, 0), driver(2, 2, 10, 0)),
		// Gangs with one driver, with two, with none, and with drivers who are free together.
		crew(driver(1, 1, 5, 2), walker(2, 1, 6, 3), walker(3, 1, 7, 4)), crew(driver(1, 1, 5, 2), driver(2, 1, 6, 2), walker(3, 1, 7, 4), walker(4, 1, 8, 4)),
		crew(walker(1, 1, 5, 2), walker(2, 1, 6, 3), walker(3, 1, 7, 4)), crew(driver(1, 1, 5, 1), driver(2, 1, 6, 2), driver(3, 1, 7, 3), driver(4, 1, 8, 4)),
		crew(driver(1, 5, 50, 0), walker(2, 5, 50, 0), walker(3, 5, 50, 0), walker(4, 5, 50, 6)),
		// Full lists.
		drivers(12, 1, 1, 50, 6), drivers(12, 88, 5, 1, 0), drivers(12, 1, 0, 50, 3),
		append(drivers(6, 1, 2, 50, 0), drivers(6, 94, 3, 1, 6)...), append(drivers(2, 1, 1, 50, 0), drivers(10, 40, 0, 50, 0)...),
		slices.Concat(drivers(2, 1, 1, 1, 0), drivers(2, 11, 2, 2, 1), drivers(3, 21, 3, 3, 2), drivers(2, 31, 4, 4, 3), drivers(3, 41, 5, 5, 4)),
	}
}

// randomCrew returns a list with few or all Gangs, Rakes and Free days, so that equal ones are
// frequent.
func randomCrew(r *rand.Rand) []impl.Worker {
	gangs, rakes, frees := 1+r.IntN(6), []int{1, 3, 50}[r.IntN(3)], []int{1, 2, 4, 7}[r.IntN(4)]
	first, carts := r.IntN(6), 1+r.IntN(4)
	list := []impl.Worker{}
	id := 1 + r.IntN(5)
	for range r.IntN(impl.MaxWorkers + 1) {
		list = append(list, impl.Worker{Id: id, Gang: (first + r.IntN(gangs)) % 6, Rakes: 1 + r.IntN(rakes), Cart: r.IntN(carts) == 0, Free: r.IntN(frees)})
		id += 1 + r.IntN(7)
	}
	return list
}

// goodCrews are the lists by hand, and others made by chance.
func goodCrews() [][]impl.Worker {
	lists := handCrews()
	r := rand.New(rand.NewPCG(5, 14))
	for range 250 {
		lists = append(lists, randomCrew(r))
	}
	return lists
}

// noWorkers are Workers with a number that is beyond its limit.
func noWorkers() []impl.Worker {
	list := []impl.Worker{{}, walker(0, 1, 1, 0), walker(1, 1, 0, 0), driver(0, 0, 0, 0)}
	for _, id := range badIds {
		list = append(list, driver(id, 1, 1, 0), walker(id, 0, 50, 6))
	}
	for _, gang := range badGangs {
		list = append(list, driver(50, gang, 1, 0), walker(50, gang, 50, 6))
	}
	for _, n := range []int{0, -1, 51, 52, 100, 1<<32 + 1, math.MaxInt, math.MinInt} {
		list = append(list, driver(50, 1, n, 0), walker(50, 0, n, 6))
	}
	for _, n := range []int{-1, -2, -7, 7, 8, 14, 1 << 32, math.MaxInt, math.MinInt} {
		list = append(list, driver(50, 1, 1, n), walker(50, 0, 50, n))
	}
	return list
}

// badCrews are lists that are no Workers.
func badCrews() [][]impl.Worker {
	lists := [][]impl.Worker{
		make([]impl.Worker, 2), make([]impl.Worker, impl.MaxWorkers), drivers(13, 1, 1, 1, 0), drivers(14, 1, 1, 1, 0), drivers(99, 1, 1, 1, 0), drivers(13, 1, 0, 1, 0),
		drivers(12, 89, 1, 1, 0), drivers(12, 0, 1, 1, 0), slices.Repeat(crew(driver(1, 1, 1, 1)), 5),
		crew(driver(1, 1, 1, 1), driver(1, 1, 1, 1)), crew(driver(1, 1, 1, 1), walker(1, 2, 5, 3)), crew(driver(2, 1, 1, 1), driver(1, 1, 1, 1)),
		crew(driver(1, 1, 1, 1), driver(2, 1, 1, 1), driver(2, 1, 1, 1)), crew(driver(1, 1, 1, 1), driver(3, 1, 1, 1), driver(2, 1, 1, 1)),
		crew(driver(1, 1, 1, 1), driver(3, 1, 1, 1), driver(1, 1, 1, 1)), crew(driver(99, 1, 1, 1), driver(98, 2, 1, 1), driver(97, 3, 1, 1)),
	}
	for _, w := range noWorkers() {
		lists = append(lists, crew(w), crew(driver(1, 1, 1, 0), driver(2, 1, 1, 0), w), crew(driver(1, 1, 1, 0), w, driver(99, 1, 1, 0)),
			crew(w, driver(98, 1, 1, 0), driver(99, 1, 1, 0)), append(drivers(11, 1, 1, 1, 0), w))
	}
	return lists
}

// guardedCrew returns the list as the start of a longer one, and what checks that neither changed.
func guardedCrew(t *testing.T, list []impl.Worker) ([]impl.Worker, func()) {
	backing := append(slices.Clone(list), driver(99, 1, 50, 0), driver(99, 2, 50, 3), walker(math.MinInt, 6, 51, 7))
	before := slices.Clone(backing)
	return backing[:len(list)], func() {
		t.Helper()
		if !slices.Equal(backing, before) {
			t.Errorf("%v was changed to %v", before, backing)
		}
	}
}

func wantWorkers(t *testing.T, call string, got []impl.Worker, ok bool, want []impl.Worker, wantOK bool) {
	t.Helper()
	if !slices.Equal(got, want) || ok != wantOK {
		t.Errorf("%s: got %v, %v, want %v, %v", call, got, ok, want, wantOK)
	}
}

// rakedBook is what each Gang rakes on each weekday; the row of none, 0, is empty.
type rakedBook [6][7]int

// bookOf goes through the Workers once and crosses out the days on which too few are left.
func bookOf(list []impl.Worker) rakedBook {
	var raked, heads, carts rakedBook
	for _, w := range list {
		for weekday := 0; weekday < 7; weekday++ {
			if weekday == w.Free {
				continue
			}
			raked[w.Gang][weekday] += w.Rakes
			heads[w.Gang][weekday]++
			if w.Cart {
				carts[w.Gang][weekday]++
			}
		}
	}
	for gang := range raked {
		for weekday := range raked[gang] {
			if gang == 0 || heads[gang][weekday] < 2 || carts[gang][weekday] < 1 {
				raked[gang][weekday] = 0
			}
		}
	}
	return raked
}

// week returns what a Gang rakes in a week.
func (b rakedBook) week(gang int) int {
	sum := 0
	for _, n := range b[gang] {
		sum += n
	}
	return sum
}

// all returns what all Gangs rake in a week.
func (b rakedBook) all() int {
	return b.week(1) + b.week(2) + b.week(3) + b.week(4) + b.week(5)
}

// without returns the list without one place.
func without(list []impl.Worker, i int) []impl.Worker {
	return slices.Delete(slices.Clone(list), i, i+1)
}

// withFree returns the list with another Free day at one place.
func withFree(list []impl.Worker, i int, free int) []impl.Worker {
	changed := slices.Clone(list)
	changed[i].Free = free
	return changed
}

// dayOf adds day by day until there is a load.
func dayOf(week [7]int, day int, load int) (int, bool) {
	for sum := week[day%7]; sum < load; sum += week[day%7] {
		day++
		if day > lastDay {
			return 0, false
		}
	}
	return day, true
}

// checkLoads holds the days of loads against the sums of a Gang from a day on.
func checkLoads(t *testing.T, list []impl.Worker, gang int, week [7]int, day int) {
	t.Helper()
	rest, last := 0, 0
	for d := day; d <= lastDay; d++ {
		rest += week[d%7]
		if week[d%7] > 0 {
			last = d
		}
	}
	today := week[day%7]
	for _, load := range []int{1, today, today + 1, 100, 777, 9999, 10000, rest - 1, rest, rest + 1} {
		if load < 1 || load > 10000 {
			continue
		}
		call := fmt.Sprint("DaysToRake ", list, gang, day, load)
		got, ok := impl.DaysToRake(list, gang, day, load)
		want, wantOK := dayOf(week, day, load)
		wantInt(t, call, got, ok, want, wantOK)
		if ok != (load <= rest) || load <= today && got != day || load == rest && got != last {
			t.Errorf("%s: got %d, %v, with %d on this day, and %d up to day %d", call, got, ok, today, rest, last)
		}
	}
}

// checkSpare holds spare Workers against the lists without them.
func checkSpare(t *testing.T, list []impl.Worker, gang int, day int) {
	t.Helper()
	spare := []int{}
	for i, w := range list {
		if w.Gang == gang && w.Free != day%7 && bookOf(without(list, i))[gang][day%7] > 0 {
			spare = append(spare, w.Id)
		}
	}
	got, ok := impl.SpareWorkers(list, gang, day)
	wantInts(t, fmt.Sprint("SpareWorkers ", list, gang, day), got, ok, spare, true)
}

// checkGang holds what a Gang rakes against its days.
func checkGang(t *testing.T, list []impl.Worker, gang int, week [7]int) {
	t.Helper()
	call := fmt.Sprint(" ", list, gang)
	got, ok := impl.RakedWeek(list, gang)
	wantInts(t, "RakedWeek"+call, got, ok, week[:], true)
	idle := []int{}
	for weekday, raked := range week {
		if raked == 0 {
			idle = append(idle, weekday)
		}
		for _, day := range []int{weekday, weekday + 7, 3990 + weekday, lastDay - weekday} {
			n, ok := impl.RakedOn(list, gang, day)
			wantInt(t, fmt.Sprint("RakedOn", call, day), n, ok, week[day%7], true)
		}
		checkSpare(t, list, gang, weekday)
		checkSpare(t, list, gang, lastDay-weekday)
	}
	days, ok := impl.IdleDays(list, gang)
	wantInts(t, "IdleDays"+call, days, ok, idle, true)
	for _, day := range []int{0, 1, 6, 7, 1234, 3900, lastDay - 8, lastDay - 1, lastDay} {
		checkLoads(t, list, gang, week, day)
	}
}

// checkFree holds a changed Free day against all seven.
func checkFree(t *testing.T, list []impl.Worker, i int) {
	t.Helper()
	best, most := 0, 0
	for free := 6; free >= 0; free-- {
		if raked := bookOf(withFree(list, i, free)).all(); raked >= most {
			best, most = free, raked
		}
	}
	call := fmt.Sprint("ChangeFree ", list, list[i].Id)
	free, raked, ok := impl.ChangeFree(list, list[i].Id)
	wantTwo(t, call, free, raked, ok, best, most, true)
	if raked < bookOf(list).all() {
		t.Error(call, "makes the week worse")
	}
	sum := 0
	for gang := 1; gang <= 5; gang++ {
		week, _ := impl.RakedWeek(withFree(list, i, free), gang)
		for _, n := range week {
			sum += n
		}
	}
	if sum != raked {
		t.Error(call, "tells", raked, "but then the Gangs rake", sum)
	}
}

// checkMove puts a Worker into each Gang and into none, and back.
func checkMove(t *testing.T, list []impl.Worker, i int) {
	t.Helper()
	for gang := 0; gang <= 5; gang++ {
		call := fmt.Sprint("PutInGang ", list, list[i].Id, gang)
		got, ok := impl.PutInGang(list, list[i].Id, gang)
		if gang == list[i].Gang {
			wantWorkers(t, call, got, ok, nil, false)
			continue
		}
		want := slices.Clone(list)
		want[i].Gang = gang
		wantWorkers(t, call, got, ok, want, true)
		back, ok := impl.PutInGang(got, list[i].Id, list[i].Gang)
		wantWorkers(t, call+" and back", back, ok, list, true)
	}
}

// checkGangs holds what is asked of all Gangs against each of them.
func checkGangs(t *testing.T, list []impl.Worker, book rakedBook) {
	t.Helper()
	sizes := make([]int, 6)
	for _, w := range list {
		sizes[w.Gang]++
	}
	got, ok := impl.GangSizes(list)
	wantInts(t, fmt.Sprint("GangSizes ", list), got, ok, sizes, true)
	greatest := 0
	for a := 1; a <= 5; a++ {
		for b := 1; b <= 5; b++ {
			if sizes[a] > 0 && sizes[b] > 0 {
				greatest = max(greatest, book.week(a)-book.week(b))
			}
		}
	}
	n, ok := impl.EvenGangs(list)
	wantInt(t, fmt.Sprint("EvenGangs ", list), n, ok, greatest, true)
}

// checkCrew holds every function against a list.
func checkCrew(t *testing.T, list []impl.Worker) {
	t.Helper()
	list, check := guardedCrew(t, list)
	if !impl.AreWorkers(list) {
		t.Error("Workers:", list)
	}
	book := bookOf(list)
	for gang := 1; gang <= 5; gang++ {
		checkGang(t, list, gang, book[gang])
	}
	for i, w := range list {
		if !impl.IsWorker(w) {
			t.Error("a Worker:", w)
		}
		checkFree(t, list, i)
		checkMove(t, list, i)
	}
	checkGangs(t, list, book)
	check()
}

// expectNoGang wants the zero values of each function with a Gang.
func expectNoGang(t *testing.T, list []impl.Worker, gang int, day int, load int) {
	t.Helper()
	call := fmt.Sprint(" ", list[:min(len(list), 14)], gang, day, load)
	n, ok := impl.RakedOn(list, gang, day)
	wantInt(t, "RakedOn"+call, n, ok, 0, false)
	n, ok = impl.DaysToRake(list, gang, day, load)
	wantInt(t, "DaysToRake"+call, n, ok, 0, false)
	spare, ok := impl.SpareWorkers(list, gang, day)
	wantInts(t, "SpareWorkers"+call, spare, ok, nil, false)
}

// expectNoWeek wants the same of those without a day.
func expectNoWeek(t *testing.T, list []impl.Worker, gang int) {
	t.Helper()
	call := fmt.Sprint(" ", list[:min(len(list), 14)], gang)
	week, ok := impl.RakedWeek(list, gang)
	wantInts(t, "RakedWeek"+call, week, ok, nil, false)
	idle, ok := impl.IdleDays(list, gang)
	wantInts(t, "IdleDays"+call, idle, ok, nil, false)
}

// expectNoChange wants the same of those that change a Worker.
func expectNoChange(t *testing.T, list []impl.Worker, id int, gang int) {
	t.Helper()
	call := fmt.Sprint(" ", list[:min(len(list), 14)], id, gang)
	changed, ok := impl.PutInGang(list, id, gang)
	wantWorkers(t, "PutInGang"+call, changed, ok, nil, false)
}

func expectNoFree(t *testing.T, list []impl.Worker, id int) {
	t.Helper()
	free, most, ok := impl.ChangeFree(list, id)
	wantTwo(t, fmt.Sprint("ChangeFree ", list[:min(len(list), 14)], id), free, most, ok, 0, 0, false)
}

func TestIsWorker(t *testing.T) {
	for _, id := range []int{1, 2, 98, 99} {
		for gang := 0; gang <= 5; gang++ {
			for _, rakes := range []int{1, 2, 49, 50} {
				for free := 0; free <= 6; free++ {
					if !impl.IsWorker(driver(id, gang, rakes, free)) || !impl.IsWorker(walker(id, gang, rakes, free)) {
						t.Error("a Worker:", id, gang, rakes, free)
					}
				}
			}
		}
	}
	for _, w := range noWorkers() {
		if impl.IsWorker(w) {
			t.Error("no Worker:", w)
		}
	}
}

// TestIsWorkerOfAllNumbers tries each number of a Worker apart from the others.
func TestIsWorkerOfAllNumbers(t *testing.T) {
	for n := -300; n <= 300; n++ {
		for _, c := range []struct {
			w    impl.Worker
			want bool
		}{
			{driver(n, 1, 1, 0), n >= 1 && n <= 99}, {driver(1, n, 1, 0), n >= 0 && n <= 5},
			{driver(1, 1, n, 0), n >= 1 && n <= 50}, {driver(1, 1, 1, n), n >= 0 && n <= 6},
		} {
			if impl.IsWorker(c.w) != c.want || impl.AreWorkers(crew(c.w)) != c.want {
				t.Error(c.w, "is a Worker: not", c.want)
			}
		}
	}
}

func TestAreWorkers(t *testing.T) {
	for n := 0; n <= 14; n++ {
		want := n <= impl.MaxWorkers
		if impl.AreWorkers(drivers(n, 1, 1, 1, 0)) != want || impl.AreWorkers(drivers(n, 100-n, 0, 50, 6)) != want {
			t.Error(n, "are Workers: not", want)
		}
	}
	for a := 1; a <= 99; a++ {
		for b := 1; b <= 99; b++ {
			if impl.AreWorkers(crew(walker(a, 1, 1, 0), walker(b, 2, 2, 1))) != (a < b) {
				t.Error("the Ids", a, b, "ascend: not", a < b)
			}
		}
	}
	for _, list := range badCrews() {
		list, check := guardedCrew(t, list)
		if impl.AreWorkers(list) {
			t.Error("no Workers:", list)
		}
		check()
	}
}

func TestWorkers(t *testing.T) {
	for _, list := range goodCrews() {
		checkCrew(t, list)
	}
}

// TestSmallGangs has all Gangs of two and of three with each Free day, each with and without Cart.
func TestSmallGangs(t *testing.T) {
	for n := range 14 * 14 * 14 {
		a, b, c := n%14, n/14%14, n/14/14
		list := crew(walker(1, 2, 1, a/2), walker(2, 2, 10, b/2), walker(3, 2, 40, c/2))
		list[0].Cart, list[1].Cart, list[2].Cart = a%2 == 0, b%2 == 0, c%2 == 0
		for _, list := range [][]impl.Worker{list, list[:2]} {
			book := bookOf(list)
			week, ok := impl.RakedWeek(list, 2)
			wantInts(t, fmt.Sprint("RakedWeek ", list), week, ok, book[2][:], true)
			for day := range 7 {
				checkSpare(t, list, 2, day)
			}
			for i := range list {
				checkFree(t, list, i)
			}
		}
	}
}

// TestRakedOnAllDays goes through all days, not only those of the first week.
func TestRakedOnAllDays(t *testing.T) {
	for _, list := range handCrews() {
		book := bookOf(list)
		for gang := 1; gang <= 5; gang++ {
			for day := 0; day <= lastDay; day++ {
				n, ok := impl.RakedOn(list, gang, day)
				if n != book[gang][day%7] || !ok {
					t.Fatal("RakedOn", list, gang, day, "got", n, ok, "want", book[gang][day%7])
				}
			}
		}
	}
}

func TestNoWorkers(t *testing.T) {
	for _, list := range badCrews() {
		list, check := guardedCrew(t, list)
		call := fmt.Sprint(" ", list[:min(len(list), 14)])
		for gang := 0; gang <= 5; gang++ {
			expectNoWeek(t, list, gang)
			expectNoGang(t, list, gang, 0, 1)
			expectNoGang(t, list, gang, lastDay, 10000)
			for _, w := range list[:min(len(list), 14)] {
				expectNoChange(t, list, w.Id, gang)
			}
			expectNoChange(t, list, 1, gang)
		}
		for _, w := range list[:min(len(list), 14)] {
			expectNoFree(t, list, w.Id)
		}
		expectNoFree(t, list, 1)
		sizes, ok := impl.GangSizes(list)
		wantInts(t, "GangSizes"+call, sizes, ok, nil, false)
		n, ok := impl.EvenGangs(list)
		wantInt(t, "EvenGangs"+call, n, ok, 0, false)
		check()
	}
}

// TestChangesOfNoWorkers has lists that would be Workers after the change.
func TestChangesOfNoWorkers(t *testing.T) {
	for _, gang := range badGangs {
		for to := 0; to <= 5; to++ {
			expectNoChange(t, crew(driver(1, gang, 1, 0)), 1, to)
			expectNoChange(t, crew(driver(1, 1, 1, 0), driver(2, gang, 1, 0)), 2, to)
		}
	}
	for _, free := range []int{-1, 7, math.MaxInt, math.MinInt} {
		expectNoFree(t, crew(driver(1, 1, 1, free)), 1)
		expectNoFree(t, crew(driver(1, 1, 1, 0), driver(2, 1, 1, free)), 2)
	}
}

func TestWorkersWithWrongNumbers(t *testing.T) {
	for _, list := range handCrews() {
		list, check := guardedCrew(t, list)
		for _, gang := range append([]int{0}, badGangs...) {
			expectNoWeek(t, list, gang)
			expectNoGang(t, list, gang, 0, 1)
			expectNoGang(t, list, gang, 3, 100)
		}
		for gang := 1; gang <= 5; gang++ {
			for _, day := range badDays {
				expectNoGang(t, list, gang, day, 1)
			}
			for _, load := range badLoads {
				for _, day := range []int{0, 1, lastDay} {
					n, ok := impl.DaysToRake(list, gang, day, load)
					wantInt(t, fmt.Sprint("DaysToRake ", list, gang, day, load), n, ok, 0, false)
				}
			}
		}
		for _, w := range list {
			for _, gang := range badGangs {
				expectNoChange(t, list, w.Id, gang)
			}
		}
		check()
	}
}

// TestMissingIds asks for all Ids that a list does not have.
func TestMissingIds(t *testing.T) {
	for _, list := range handCrews() {
		list, check := guardedCrew(t, list)
		ids := slices.Clone(badIds)
		for id := 1; id <= 99; id++ {
			if !slices.ContainsFunc(list, func(w impl.Worker) bool { return w.Id == id }) {
				ids = append(ids, id)
			}
		}
		for _, id := range ids {
			expectNoFree(t, list, id)
			for gang := -1; gang <= 6; gang++ {
				expectNoChange(t, list, id, gang)
			}
		}
		check()
	}
}

func TestRakedWeek(t *testing.T) {
	for _, c := range []struct {
		list []impl.Worker
		gang int
		want []int
		idle []int
	}{
		{nil, 1, make([]int, 7), []int{0, 1, 2, 3, 4, 5, 6}},
		{crew(driver(1, 1, 50, 3)), 1, make([]int, 7), []int{0, 1, 2, 3, 4, 5, 6}},
		{crew(driver(1, 0, 50, 3), driver(2, 0, 50, 3)), 5, make([]int, 7), []int{0, 1, 2, 3, 4, 5, 6}},
		{crew(driver(1, 1, 10, 3), driver(2, 2, 10, 3)), 1, make([]int, 7), []int{0, 1, 2, 3, 4, 5, 6}},
		{crew(walker(1, 1, 10, 3), walker(2, 1, 10, 4), walker(3, 1, 10, 5)), 1, make([]int, 7), []int{0, 1, 2, 3, 4, 5, 6}},
		// Gangs of two do not work if one of them is free.
		{crew(driver(1, 1, 10, 0), walker(2, 1, 12, 1)), 1, []int{0, 0, 22, 22, 22, 22, 22}, []int{0, 1}},
		{crew(driver(1, 1, 10, 6), driver(2, 1, 12, 3)), 1, []int{22, 22, 22, 0, 22, 22, 0}, []int{3, 6}},
		{crew(walker(1, 5, 50, 5), driver(2, 5, 50, 5)), 5, []int{100, 100, 100, 100, 100, 0, 100}, []int{5}},
		// Gangs of three do not work if their only driver of a Cart is free.
		{crew(driver(1, 1, 10, 2), walker(2, 1, 12, 4), walker(3, 1, 5, 4)), 1, []int{27, 27, 0, 27, 0, 27, 27}, []int{2, 4}},
		{crew(walker(1, 1, 10, 2), driver(2, 1, 12, 4), walker(3, 1, 5, 5)), 1, []int{27, 27, 17, 27, 0, 22, 27}, []int{4}},
		{crew(driver(1, 1, 10, 2), driver(2, 1, 12, 4), walker(3, 1, 5, 5)), 1, []int{27, 27, 17, 27, 15, 22, 27}, nil},
		{crew(driver(1, 1, 10, 2), driver(2, 1, 12, 2), walker(3, 1, 5, 5), walker(4, 1, 1, 0)), 1, []int{27, 28, 0, 28, 28, 23, 28}, []int{2}},
		// Drivers of another Gang or of none do not help.
		{crew(walker(1, 1, 10, 2), driver(2, 2, 12, 4), walker(3, 1, 5, 5), driver(4, 0, 7, 1)), 1, make([]int, 7), []int{0, 1, 2, 3, 4, 5, 6}},
		{crew(walker(1, 1, 10, 2), driver(2, 2, 12, 4), walker(3, 2, 5, 5), driver(4, 0, 7, 1)), 2, []int{17, 17, 17, 17, 0, 0, 17}, []int{4, 5}},
		{threeGangs(), 1, []int{23, 34, 34, 34, 34, 34, 0}, []int{6}}, {threeGangs(), 4, []int{16, 16, 0, 16, 16, 16, 16}, []int{2}}, {threeGangs(), 5, make([]int, 7), []int{0, 1, 2, 3, 4, 5, 6}},
		{drivers(12, 1, 3, 50, 6), 3, []int{600, 600, 600, 600, 600, 600, 0}, []int{6}}, {drivers(2, 1, 3, 1, 0), 3, []int{0, 2, 2, 2, 2, 2, 2}, []int{0}},
	} {
		call := fmt.Sprint(" ", c.list, c.gang)
		week, ok := impl.RakedWeek(c.list, c.gang)
		wantInts(t, "RakedWeek"+call, week, ok, c.want, true)
		idle, ok := impl.IdleDays(c.list, c.gang)
		wantInts(t, "IdleDays"+call, idle, ok, c.idle, true)
		for i, want := range append(c.want, c.want...) {
			n, ok := impl.RakedOn(c.list, c.gang, i)
			wantInt(t, fmt.Sprint("RakedOn", call, i), n, ok, want, true)
		}
	}
}

func TestDaysToRake(t *testing.T) {
	two := drivers(2, 1, 1, 1, 0)
	most := drivers(12, 1, 2, 50, 6)
	gaps := crew(driver(1, 1, 10, 0), walker(2, 1, 12, 1))
	for _, c := range []struct {
		list            []impl.Worker
		gang, day, load int
		want            int
		ok              bool
	}{
		// A load of the first day, of an idle first day, and one more.
		{gaps, 1, 2, 1, 2, true}, {gaps, 1, 2, 22, 2, true}, {gaps, 1, 2, 23, 3, true}, {gaps, 1, 0, 1, 2, true}, {gaps, 1, 1, 22, 2, true}, {gaps, 1, 6, 22, 6, true}, {gaps, 1, 6, 23, 9, true},
		{gaps, 1, 0, 110, 6, true}, {gaps, 1, 0, 111, 9, true}, {gaps, 1, 7, 110, 13, true}, {gaps, 1, 7, 111, 16, true}, {gaps, 1, 9, 44, 10, true}, {gaps, 1, 9, 45, 11, true},
		{most, 2, 0, 10000, 18, true}, {most, 2, 0, 9600, 17, true}, {most, 2, 0, 9601, 18, true}, {most, 2, 5, 600, 5, true}, {most, 2, 5, 601, 7, true}, {most, 2, 6, 600, 7, true},
		// Day 4000 has the weekday 3.
		{two, 1, lastDay, 1, lastDay, true}, {two, 1, lastDay, 2, lastDay, true}, {two, 1, lastDay, 3, 0, false}, {two, 1, lastDay, 10000, 0, false},
		{two, 1, 3999, 3, lastDay, true}, {two, 1, 3999, 4, lastDay, true}, {two, 1, 3999, 5, 0, false}, {two, 1, 3997, 6, lastDay, true}, {two, 1, 3997, 7, 0, false},
		{two, 1, 0, 6858, lastDay, true}, {two, 1, 0, 6859, 0, false}, {two, 1, 0, 6857, lastDay, true}, {two, 1, 0, 6856, 3999, true}, {two, 1, 0, 10000, 0, false}, {two, 1, 0, 1, 1, true}, {two, 1, 0, 3, 2, true},
		{drivers(2, 1, 1, 1, 3), 1, lastDay, 1, 0, false}, {drivers(2, 1, 1, 1, 3), 1, 3999, 2, 3999, true}, {drivers(2, 1, 1, 1, 3), 1, 3999, 3, 0, false}, {drivers(2, 1, 1, 1, 3), 1, 0, 6858, 3999, true}, {drivers(2, 1, 1, 1, 3), 1, 0, 6859, 0, false},
		{most, 2, 3980, 10000, 3999, true}, {most, 2, 3981, 10000, lastDay, true}, {most, 2, 3982, 10000, 0, false}, {most, 2, 3983, 9600, lastDay, true}, {most, 2, 3983, 9601, 0, false},
		// Gangs that never work.
		{nil, 1, 0, 1, 0, false}, {two, 2, 0, 1, 0, false}, {most, 1, 0, 1, 0, false}, {crew(driver(1, 1, 50, 0)), 1, 0, 1, 0, false}, {crew(walker(1, 1, 50, 0), walker(2, 1, 50, 0)), 1, 0, 1, 0, false},
	} {
		got, ok := impl.DaysToRake(c.list, c.gang, c.day, c.load)
		wantInt(t, fmt.Sprint("DaysToRake ", c.list, c.gang, c.day, c.load), got, ok, c.want, c.ok)
	}
}

func TestPutInGang(t *testing.T) {
	for _, c := range []struct {
		list     []impl.Worker
		id, gang int
		want     []impl.Worker
	}{
		{crew(driver(1, 1, 9, 3)), 1, 5, crew(driver(1, 5, 9, 3))}, {crew(driver(1, 1, 9, 3)), 1, 0, crew(driver(1, 0, 9, 3))}, {crew(walker(99, 0, 50, 6)), 99, 1, crew(walker(99, 1, 50, 6))},
		{crew(driver(1, 1, 9, 3)), 1, 1, nil}, {crew(driver(1, 0, 9, 3)), 1, 0, nil}, {crew(driver(1, 5, 9, 3)), 1, 5, nil}, {crew(driver(1, 5, 9, 3)), 1, 6, nil}, {crew(driver(1, 0, 9, 3)), 1, -1, nil},
		{crew(driver(1, 1, 9, 3), walker(2, 2, 8, 4)), 1, 2, crew(driver(1, 2, 9, 3), walker(2, 2, 8, 4))}, {crew(driver(1, 1, 9, 3), walker(2, 2, 8, 4)), 2, 1, crew(driver(1, 1, 9, 3), walker(2, 1, 8, 4))},
		{crew(driver(1, 1, 9, 3), walker(2, 2, 8, 4)), 2, 2, nil}, {crew(driver(1, 1, 9, 3), walker(2, 2, 8, 4)), 3, 2, nil}, {crew(driver(1, 1, 9, 3), walker(3, 2, 8, 4)), 2, 0, nil}, {nil, 1, 1, nil}, {nil, 0, 0, nil},
	} {
		got, ok := impl.PutInGang(c.list, c.id, c.gang)
		wantWorkers(t, fmt.Sprint("PutInGang ", c.list, c.id, c.gang), got, ok, c.want, c.want != nil)
	}
}

func TestChangeFree(t *testing.T) {
	for _, c := range []struct {
		list           []impl.Worker
		id, free, most int
	}{
		// Both of a gang of two best have the same Free day.
		{crew(driver(1, 1, 10, 0), walker(2, 1, 12, 1)), 1, 1, 132}, {crew(driver(1, 1, 10, 0), walker(2, 1, 12, 1)), 2, 0, 132}, {crew(driver(1, 1, 10, 5), walker(2, 1, 12, 5)), 2, 5, 132},
		// The driver best has the Free day of the walker who rakes most.
		{crew(driver(1, 1, 10, 0), walker(2, 1, 12, 3), walker(3, 1, 5, 4)), 1, 3, 157}, {crew(driver(1, 1, 10, 0), walker(2, 1, 5, 3), walker(3, 1, 12, 4)), 1, 4, 157}, {crew(driver(1, 1, 10, 0), walker(2, 1, 5, 6), walker(3, 1, 12, 6)), 1, 6, 162},
		{crew(driver(1, 1, 10, 0), walker(2, 1, 12, 3), walker(3, 1, 5, 4)), 2, 0, 157}, {crew(driver(1, 1, 10, 0), walker(2, 1, 12, 3), walker(3, 1, 5, 4)), 3, 0, 150},
		// Ties: all days, some of them, and one that the Worker has already.
		{crew(driver(1, 1, 10, 4), driver(2, 1, 10, 6), driver(3, 1, 10, 6), driver(4, 1, 10, 6)), 1, 6, 240}, {crew(driver(1, 1, 10, 2), driver(2, 1, 10, 4)), 1, 4, 120},
		{drivers(3, 1, 1, 10, 2), 2, 2, 180}, {drivers(4, 1, 1, 10, 2), 4, 2, 240}, {drivers(12, 1, 1, 50, 0), 1, 0, 3600}, {crew(driver(1, 1, 9, 1), driver(2, 1, 9, 3), driver(3, 1, 9, 5), driver(4, 1, 9, 6)), 2, 0, 216},
		{crew(driver(1, 1, 10, 6), walker(2, 1, 7, 2), walker(3, 1, 7, 4), walker(4, 1, 7, 2), walker(5, 1, 7, 4)), 1, 2, 214},
		// A Free day that changes nothing: of none, of a gang of one, of a gang without a driver.
		{crew(driver(1, 0, 10, 6)), 1, 0, 0}, {crew(driver(1, 1, 10, 6)), 1, 0, 0}, {crew(walker(1, 1, 10, 6), walker(2, 1, 10, 5)), 2, 0, 0}, {crew(driver(1, 2, 10, 3), driver(2, 2, 10, 3), driver(9, 0, 50, 4), driver(10, 3, 50, 5)), 9, 0, 120},
		{crew(driver(1, 2, 10, 3), driver(2, 2, 10, 3), driver(9, 0, 50, 4), driver(10, 3, 50, 5)), 10, 0, 120}, {crew(driver(1, 2, 10, 3), driver(2, 2, 10, 3), driver(9, 0, 50, 4), driver(10, 3, 50, 5)), 1, 3, 120},
		// The Gangs of all others count too.
		{threeGangs(), 8, 0, 289}, {threeGangs(), 50, 0, 289}, {threeGangs(), 2, 2, 289}, {threeGangs(), 3, 0, 297}, {threeGangs(), 7, 6, 300}, {threeGangs(), 21, 6, 289}, {threeGangs(), 99, 0, 289},
	} {
		free, most, ok := impl.ChangeFree(c.list, c.id)
		wantTwo(t, fmt.Sprint("ChangeFree ", c.list, c.id), free, most, ok, c.free, c.most, true)
	}
}

func TestSpareWorkers(t *testing.T) {
	one := crew(driver(1, 1, 5, 2), walker(2, 1, 6, 3), walker(3, 1, 7, 4), walker(4, 2, 9, 4))
	both := crew(driver(1, 1, 5, 2), driver(5, 1, 6, 3), walker(9, 1, 7, 4))
	for _, c := range []struct {
		list      []impl.Worker
		gang, day int
		want      []int
	}{
		// The only driver is not spare, and all others are, as long as there are two.
		{one, 1, 0, []int{2, 3}}, {one, 1, 1, []int{2, 3}}, {one, 1, 2, nil}, {one, 1, 3, nil}, {one, 1, 4, nil}, {one, 1, 5, []int{2, 3}}, {one, 1, 7, []int{2, 3}}, {one, 1, 9, nil}, {one, 1, lastDay, nil}, {one, 1, 3999, nil}, {one, 1, 3998, []int{2, 3}},
		{both, 1, 0, []int{1, 5, 9}}, {both, 1, 2, nil}, {both, 1, 3, nil}, {both, 1, 4, nil}, {both, 1, lastDay, nil}, {both, 1, 3998, []int{1, 5, 9}},
		{crew(driver(1, 1, 5, 2), driver(2, 1, 6, 3)), 1, 0, nil}, {crew(driver(1, 1, 5, 2)), 1, 0, nil}, {nil, 1, 0, nil}, {one, 2, 0, nil}, {one, 3, 0, nil},
		{crew(walker(1, 1, 5, 2), walker(2, 1, 6, 3), walker(3, 1, 5, 2), walker(4, 1, 6, 3)), 1, 0, nil}, {drivers(3, 97, 5, 1, 6), 5, 5, []int{97, 98, 99}}, {drivers(3, 97, 5, 1, 6), 5, 6, nil},
		{drivers(12, 1, 1, 1, 0), 1, 1, []int{1, 2, 3, 4, 5, 6, 7, 8, 9, 10, 11, 12}}, {drivers(12, 1, 1, 1, 0), 1, 0, nil}, {threeGangs(), 1, 1, []int{7, 21}}, {threeGangs(), 1, 0, nil}, {threeGangs(), 1, 6, nil}, {threeGangs(), 4, 0, nil},
		// Who is free is not spare, and a Worker of none or of another Gang neither.
		{crew(driver(1, 1, 5, 0), driver(2, 1, 5, 1), driver(3, 1, 5, 1), driver(4, 1, 5, 1), driver(5, 0, 5, 1), driver(6, 2, 5, 1)), 1, 0, []int{2, 3, 4}},
		{crew(driver(1, 1, 5, 0), driver(2, 1, 5, 1), walker(3, 1, 5, 1), walker(4, 1, 5, 1)), 1, 0, []int{3, 4}}, {crew(driver(1, 1, 5, 0), driver(2, 1, 5, 1), walker(3, 1, 5, 1), walker(4, 1, 5, 1)), 1, 8, nil},
		{crew(driver(1, 1, 5, 0), driver(2, 1, 5, 1), walker(3, 1, 5, 1), walker(4, 1, 5, 1)), 1, 2, []int{1, 2, 3, 4}},
	} {
		got, ok := impl.SpareWorkers(c.list, c.gang, c.day)
		wantInts(t, fmt.Sprint("SpareWorkers ", c.list, c.gang, c.day), got, ok, c.want, true)
	}
}

func TestGangSizesAndEvenGangs(t *testing.T) {
	for _, c := range []struct {
		list  []impl.Worker
		sizes []int
		even  int
	}{
		{nil, []int{0, 0, 0, 0, 0, 0}, 0}, {drivers(12, 1, 0, 50, 0), []int{12, 0, 0, 0, 0, 0}, 0}, {drivers(12, 1, 5, 50, 0), []int{0, 0, 0, 0, 0, 12}, 0}, {drivers(2, 1, 1, 50, 0), []int{0, 2, 0, 0, 0, 0}, 0},
		// A Gang and Workers in none are not two Gangs.
		{append(drivers(2, 1, 1, 50, 0), driver(9, 0, 5, 5)), []int{1, 2, 0, 0, 0, 0}, 0}, {append(drivers(2, 1, 3, 50, 0), driver(9, 0, 5, 5), driver(10, 0, 5, 5)), []int{2, 0, 0, 2, 0, 0}, 0},
		// A Gang that never works has raked nothing.
		{append(drivers(2, 1, 1, 50, 0), driver(9, 4, 5, 5)), []int{0, 2, 0, 0, 1, 0}, 600}, {append(drivers(2, 1, 5, 1, 0), walker(9, 1, 5, 5), walker(10, 1, 5, 5)), []int{0, 2, 0, 0, 0, 2}, 12},
		{crew(driver(1, 1, 5, 0), driver(2, 2, 50, 3)), []int{0, 1, 1, 0, 0, 0}, 0}, {append(drivers(2, 1, 1, 8, 0), drivers(2, 9, 2, 8, 5)...), []int{0, 2, 2, 0, 0, 0}, 0},
		{slices.Concat(drivers(2, 1, 2, 8, 0), drivers(2, 9, 3, 9, 5), drivers(2, 20, 4, 3, 1)), []int{0, 0, 2, 2, 2, 0}, 72}, {append(drivers(6, 1, 4, 50, 0), drivers(6, 90, 5, 1, 6)...), []int{0, 0, 0, 0, 6, 6}, 1764},
		{slices.Concat(drivers(2, 1, 1, 1, 0), drivers(2, 11, 2, 2, 1), drivers(3, 21, 3, 3, 2), drivers(2, 31, 4, 4, 3), drivers(3, 41, 5, 5, 4)), []int{0, 2, 2, 3, 2, 3}, 78}, {threeGangs(), []int{2, 3, 0, 0, 2, 1}, 193},
	} {
		got, ok := impl.GangSizes(c.list)
		wantInts(t, fmt.Sprint("GangSizes ", c.list), got, ok, c.sizes, true)
		n, ok := impl.EvenGangs(c.list)
		wantInt(t, fmt.Sprint("EvenGangs ", c.list), n, ok, c.even, true)
	}
}

func TestWorkerResultsAreApart(t *testing.T) {
	list := threeGangs()
	moved := threeGangs()
	moved[0].Gang = 5
	for range 2 {
		changed, ok := impl.PutInGang(list, 2, 5)
		wantWorkers(t, "PutInGang", changed, ok, moved, true)
		week, ok := impl.RakedWeek(list, 1)
		wantInts(t, "RakedWeek", week, ok, []int{23, 34, 34, 34, 34, 34, 0}, true)
		idle, ok := impl.IdleDays(list, 1)
		wantInts(t, "IdleDays", idle, ok, []int{6}, true)
		spare, ok := impl.SpareWorkers(list, 1, 1)
		wantInts(t, "SpareWorkers", spare, ok, []int{7, 21}, true)
		sizes, ok := impl.GangSizes(list)
		wantInts(t, "GangSizes", sizes, ok, []int{2, 3, 0, 0, 2, 1}, true)
		clear(changed[:cap(changed)])
		clear(week[:cap(week)])
		clear(idle[:cap(idle)])
		clear(spare[:cap(spare)])
		clear(sizes[:cap(sizes)])
		if !slices.Equal(list, threeGangs()) {
			t.Fatal("a result shares memory with its argument", list)
		}
	}
}
