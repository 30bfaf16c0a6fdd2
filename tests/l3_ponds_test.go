package tests

import (
	"fmt"
	"math"
	"math/rand/v2"
	"slices"
	"testing"

	"loop.example/g01019/impl"
)

const gridSide = 50

// limitPonds are at the ends of each limit.
var limitPonds = []impl.Pond{
	{Id: 1, Wide: 1, High: 1, Depth: 5}, {Id: 99, Wide: 1, High: 1, Depth: 5}, {Id: 1, Wide: 1, High: 1, Depth: 200},
	{Id: 1, Wide: 20, High: 1, Depth: 5}, {Id: 1, Wide: 1, High: 20, Depth: 5}, {Id: 99, Wide: 20, High: 20, Depth: 200},
	{Id: 5, Left: 49, Wide: 1, High: 3, Depth: 30}, {Id: 5, Top: 49, Wide: 3, High: 1, Depth: 30},
	{Id: 5, Left: 49, Top: 49, Wide: 1, High: 1, Depth: 30}, {Id: 99, Left: 30, Top: 30, Wide: 20, High: 20, Depth: 200},
	{Id: 5, Left: 30, Wide: 20, High: 4, Depth: 30}, {Id: 5, Top: 30, Wide: 4, High: 20, Depth: 30},
	{Id: 50, Left: 48, Top: 7, Wide: 2, High: 6, Depth: 77}, {Id: 50, Left: 7, Top: 48, Wide: 6, High: 2, Depth: 77},
	{Id: 98, Left: 29, Top: 29, Wide: 20, High: 20, Depth: 199}, {Id: 2, Left: 1, Top: 1, Wide: 2, High: 2, Depth: 6},
}

// noPonds have one number beyond its limit, or at an end of int, or sums that wrap around.
var noPonds = append([]impl.Pond{
	{}, {Id: 1, Wide: 1, High: 1}, {Id: 1, Depth: 5}, {Wide: 1, High: 1, Depth: 5},
	{Id: 5, Left: 49, Wide: 2, High: 3, Depth: 30}, {Id: 5, Top: 49, Wide: 3, High: 2, Depth: 30},
	{Id: 5, Left: 31, Wide: 20, High: 4, Depth: 30}, {Id: 5, Top: 31, Wide: 4, High: 20, Depth: 30},
	{Id: 5, Left: 48, Wide: 3, High: 1, Depth: 30}, {Id: 5, Top: 48, Wide: 1, High: 3, Depth: 30},
	{Id: 5, Left: -2, Wide: 5, High: 5, Depth: 30}, {Id: 5, Top: -2, Wide: 5, High: 5, Depth: 30},
	{Id: 5, Left: 10, Wide: -3, High: -3, Depth: 30}, {Id: -5, Left: -1, Top: -1, Wide: -1, High: -1, Depth: -5},
	{Id: 5, Left: math.MaxInt, Wide: math.MinInt, High: 1, Depth: 30}, {Id: 5, Top: math.MaxInt, Wide: 1, High: math.MinInt, Depth: 30},
	{Id: 5, Left: math.MaxInt, Wide: math.MaxInt, High: 1, Depth: 30}, {Id: 5, Top: math.MaxInt, Wide: 1, High: math.MaxInt, Depth: 30},
	{Id: 5, Left: math.MinInt, Wide: math.MinInt, High: 1, Depth: 30}, {Id: 5, Top: math.MinInt, Wide: 1, High: math.MinInt, Depth: 30},
	{Id: 5, Wide: 1 << 32, High: 1 << 32, Depth: 30}, {Id: 1<<32 + 5, Left: 1 << 32, Top: 1 << 32, Wide: 1<<32 + 1, High: 1<<32 + 1, Depth: 1<<32 + 30},
}, pondsOffLimits()...)

// badIds are in no list of Ponds.
var badIds = []int{0, -1, -99, 100, 101, 1<<32 + 1, math.MaxInt, math.MaxInt - 1, math.MinInt, math.MinInt + 1}

// pondsOffLimits are all Ponds that have one wrong number.
func pondsOffLimits() []impl.Pond {
	var list []impl.Pond
	change := func(field func(p *impl.Pond) *int, numbers ...int) {
		for _, n := range append(numbers, -1, -7, math.MaxInt, math.MaxInt-1, math.MinInt, math.MinInt+1) {
			p := impl.Pond{Id: 3, Wide: 2, High: 2, Depth: 30}
			*field(&p) = n
			list = append(list, p)
		}
	}
	change(func(p *impl.Pond) *int { return &p.Id }, 0, 100)
	change(func(p *impl.Pond) *int { return &p.Left }, 49, 50)
	change(func(p *impl.Pond) *int { return &p.Top }, 49, 50)
	change(func(p *impl.Pond) *int { return &p.Wide }, 0, 21)
	change(func(p *impl.Pond) *int { return &p.High }, 0, 21)
	change(func(p *impl.Pond) *int { return &p.Depth }, 0, 4, 201)
	return list
}

// drawn returns the Ponds of a picture, in which each cell has the Id of its Pond or a point; the
// Depth of each is ten times its Id.
func drawn(rows ...string) []impl.Pond {
	var list []impl.Pond
	for id := 1; id <= 9; id++ {
		left, top, right, bottom := gridSide, gridSide, -1, -1
		for y, row := range rows {
			for x, c := range row {
				if int(c-'0') == id {
					left, top, right, bottom = min(left, x), min(top, y), max(right, x), max(bottom, y)
				}
			}
		}
		if right >= 0 {
			list = append(list, impl.Pond{Id: id, Left: left, Top: top, Wide: right - left + 1, High: bottom - top + 1, Depth: 10 * id})
		}
	}
	return list
}

// moved returns the same Ponds at another place.
func moved(list []impl.Pond, right int, down int) []impl.Pond {
	list = slices.Clone(list)
	for i := range list {
		list[i].Left += right
		list[i].Top += down
	}
	return list
}

// rowOf returns n Ponds of 2 by 2 cells, each beside the one before it, with the Ids from first on.
func rowOf(n int, first int) []impl.Pond {
	var list []impl.Pond
	for i := range n {
		list = append(list, impl.Pond{Id: first + i, Left: 2 * i, Wide: 2, High: 2, Depth: 50})
	}
	return list
}

// fullGrid returns nine Ponds that have all cells of the grid.
func fullGrid() []impl.Pond {
	var list []impl.Pond
	for i := range 9 {
		x, y := i%3, i/3
		list = append(list, impl.Pond{Id: 11 * (i + 1), Left: 20 * x, Top: 20 * y, Wide: 20 - x/2*10, High: 20 - y/2*10, Depth: 100})
	}
	return list
}

// randomPonds returns Ponds close to one another, somewhere on the grid.
func randomPonds(r *rand.Rand) []impl.Pond {
	side := 2 + r.IntN(9)
	left, top := r.IntN(gridSide-side+1), r.IntN(gridSide-side+1)
	var list []impl.Pond
	for range 60 {
		x, y := r.IntN(side), r.IntN(side)
		wide, high := 1+r.IntN(min(5, side-x)), 1+r.IntN(min(5, side-y))
		p := impl.Pond{Id: 1, Left: left + x, Top: top + y, Wide: wide, High: high, Depth: 5 + r.IntN(196)}
		if _, apart := cellsOf(append(slices.Clone(list), p)); apart && len(list) < impl.MaxPonds {
			list = append(list, p)
		}
	}
	ids := r.Perm(99)[:len(list)]
	slices.Sort(ids)
	for i, id := range ids {
		list[i].Id = id + 1
	}
	return list
}

// goodLists are lists of Ponds with all that the chapter names, and others made by chance.
func goodLists() [][]impl.Pond {
	lists := [][]impl.Pond{
		nil, {}, rowOf(10, 1), rowOf(10, 90), rowOf(9, 90), rowOf(9, 91), fullGrid(),
		drawn("1111.", "11112", "33342", "333.2"), drawn("123", "456", "789"), drawn("12.", "43.", "455"),
		drawn("1.2", ".3.", "4.5"), drawn("111", "2.3", "2.3", "444"), drawn("1234567", "8888888", "9999999"),
		moved(drawn("123", "456", "789"), 47, 47), moved(drawn("9.1", "9.1", "285"), 0, 47), moved(drawn("123", "456", "789"), 47, 0),
	}
	for _, p := range limitPonds {
		lists = append(lists, []impl.Pond{p})
	}
	r := rand.New(rand.NewPCG(3, 11))
	for range 150 {
		lists = append(lists, randomPonds(r))
	}
	return lists
}

// badLists are no lists of Ponds.
func badLists() [][]impl.Pond {
	p, q, other := rowOf(3, 1)[0], rowOf(3, 1)[1], rowOf(3, 1)[2]
	sameId := q
	sameId.Id = p.Id
	lists := [][]impl.Pond{
		{q, p}, {p, other, q}, {other, q, p}, {p, p}, {p, sameId}, {sameId, p}, {p, q, q}, {p, q, sameId},
		{p, {Id: 2, Left: 1, Top: 1, Wide: 2, High: 2, Depth: 50}}, {p, {Id: 2, Wide: 2, High: 2, Depth: 50}},
		{p, q, {Id: 3, Left: 1, Wide: 1, High: 1, Depth: 50}}, {{Id: 1, Left: 1, Top: 1, Wide: 1, High: 1, Depth: 5}, {Id: 2, Wide: 3, High: 3, Depth: 5}},
		{p, q, {Id: 3, Left: 3, Top: 1, Wide: 9, High: 9, Depth: 50}}, {{Id: 1, Left: 5, Wide: 2, High: 9, Depth: 5}, {Id: 2, Top: 5, Wide: 9, High: 2, Depth: 5}},
		rowOf(11, 1), rowOf(11, 89), rowOf(12, 20), rowOf(10, 91), rowOf(10, 0), rowOf(3, -1), make([]impl.Pond, 1), make([]impl.Pond, 11), make([]impl.Pond, 5000),
	}
	for _, bad := range noPonds {
		lists = append(lists, []impl.Pond{bad}, []impl.Pond{{Id: 2, Left: 9, Top: 9, Wide: 1, High: 1, Depth: 9}, bad}, []impl.Pond{bad, {Id: 9, Left: 9, Top: 9, Wide: 1, High: 1, Depth: 9}})
	}
	return lists
}

// grid has the Id of its Pond for each cell, or 0.
type grid [gridSide][gridSide]int

// cellsOf marks the cells of Ponds, and tells whether no two of them have one in common.
func cellsOf(list []impl.Pond) (grid, bool) {
	var cells grid
	apart := true
	for _, p := range list {
		for x := p.Left; x < p.Left+p.Wide; x++ {
			for y := p.Top; y < p.Top+p.High; y++ {
				apart = apart && cells[x][y] == 0
				cells[x][y] = p.Id
			}
		}
	}
	return cells, apart
}

// at returns 0 beside the grid too.
func (g grid) at(x int, y int) int {
	if x < 0 || y < 0 || x >= gridSide || y >= gridSide {
		return 0
	}
	return g[x][y]
}

// sides counts, for each pair of different Ids, the sides that cells of the first one have with
// such of the second one; the second Id is 0 for sides that are no banks.
func (g grid) sides() map[[2]int]int {
	count := map[[2]int]int{}
	for x := range gridSide {
		for y := range gridSide {
			for _, beside := range []int{g.at(x-1, y), g.at(x+1, y), g.at(x, y-1), g.at(x, y+1)} {
				if g[x][y] != 0 && beside != g[x][y] {
					count[[2]int{g[x][y], beside}]++
				}
			}
		}
	}
	return count
}

// bestWay tries all ways that go on from way without a Pond twice, and returns the best one.
func bestWay(list []impl.Pond, sides map[[2]int]int, way []int, to int) []int {
	last := way[len(way)-1]
	if last == to {
		return way
	}
	var best []int
	for _, p := range list {
		if sides[[2]int{last, p.Id}] == 0 || slices.Contains(way, p.Id) {
			continue
		}
		found := bestWay(list, sides, append(slices.Clone(way), p.Id), to)
		if found != nil && (best == nil || len(found) < len(best) || len(found) == len(best) && slices.Compare(found, best) < 0) {
			best = found
		}
	}
	return best
}

// joinedBy returns what JoinPonds has to return for two different Ponds.
func joinedBy(list []impl.Pond, cells grid, p impl.Pond, q impl.Pond) []impl.Pond {
	left, right := min(p.Left, q.Left), max(p.Left+p.Wide, q.Left+q.Wide)
	top, bottom := min(p.Top, q.Top), max(p.Top+p.High, q.Top+q.High)
	for x := left; x < right; x++ {
		for y := top; y < bottom; y++ {
			if cells[x][y] != p.Id && cells[x][y] != q.Id {
				return nil
			}
		}
	}
	if right-left > 20 || bottom-top > 20 {
		return nil
	}
	var result []impl.Pond
	for _, x := range list {
		if x.Id == p.Id {
			result = append(result, impl.Pond{Id: p.Id, Left: left, Top: top, Wide: right - left, High: bottom - top, Depth: min(p.Depth, q.Depth)})
		} else if x.Id != q.Id {
			result = append(result, x)
		}
	}
	return result
}

func wantInts(t *testing.T, call string, got []int, ok bool, want []int, wantOK bool) {
	t.Helper()
	if !slices.Equal(got, want) || ok != wantOK {
		t.Errorf("%s: got %v, %v, want %v, %v", call, got, ok, want, wantOK)
	}
}

func wantPonds(t *testing.T, call string, got []impl.Pond, ok bool, want []impl.Pond, wantOK bool) {
	t.Helper()
	if !slices.Equal(got, want) || ok != wantOK {
		t.Errorf("%s: got %v, %v, want %v, %v", call, got, ok, want, wantOK)
	}
}

// guarded returns the list as the start of a longer one, and what checks that neither changed.
func guarded(t *testing.T, list []impl.Pond) ([]impl.Pond, func()) {
	backing := append(slices.Clone(list), impl.Pond{Id: 77, Wide: 9, High: 9, Depth: 9}, impl.Pond{Id: -1, Left: 3}, impl.Pond{})
	before := slices.Clone(backing)
	return backing[:len(list)], func() {
		t.Helper()
		if !slices.Equal(backing, before) {
			t.Errorf("%v was changed to %v", before, backing)
		}
	}
}

// checkCells holds what is asked for the whole list against its cells.
func checkCells(t *testing.T, list []impl.Pond, cells grid) {
	t.Helper()
	free := 0
	for x := range gridSide {
		for y := range gridSide {
			if got, ok := impl.PondAt(list, x, y); got != cells[x][y] || !ok {
				t.Errorf("PondAt(%v, %d, %d) = %d, %v, want %d", list, x, y, got, ok, cells[x][y])
			}
			if cells[x][y] == 0 {
				free++
			}
		}
	}
	got, ok := impl.FreeCells(list)
	wantInt(t, fmt.Sprint("FreeCells ", list), got, ok, free, true)
}

// checkPond holds what is asked for one Pond against the cells.
func checkPond(t *testing.T, list []impl.Pond, p impl.Pond, sides map[[2]int]int) {
	t.Helper()
	call := fmt.Sprint(list, p.Id)
	cubic, ok := impl.HoldsCubic(list, p.Id)
	wantInt(t, "HoldsCubic "+call, cubic, ok, 10*p.Wide*10*p.High*p.Depth/100, true)
	outer, ok := impl.OuterBank(list, p.Id)
	wantInt(t, "OuterBank "+call, outer, ok, sides[[2]int{p.Id, 0}], true)
	var neighbors []int
	for _, q := range list {
		if sides[[2]int{p.Id, q.Id}] > 0 {
			neighbors = append(neighbors, q.Id)
		}
	}
	got, ok := impl.NeighborsOf(list, p.Id)
	wantInts(t, "NeighborsOf "+call, got, ok, neighbors, true)
	for wide := -1; wide <= 21; wide++ {
		checkCut(t, list, p, wide)
	}
}

// checkCut puts the parts together from what is known of the whole Pond.
func checkCut(t *testing.T, list []impl.Pond, p impl.Pond, wide int) {
	t.Helper()
	call := fmt.Sprint("CutPond ", list, p.Id, wide)
	greatest := list[len(list)-1].Id
	got, id, ok := impl.CutPond(list, p.Id, wide)
	if len(list) == impl.MaxPonds || greatest == 99 || wide < 1 || wide >= p.Wide {
		wantPonds(t, call, got, ok, nil, false)
		wantInt(t, call, id, ok, 0, false)
		return
	}
	want := slices.Clone(list)
	want[slices.Index(want, p)].Wide = wide
	want = append(want, impl.Pond{Id: greatest + 1, Left: p.Left + wide, Top: p.Top, Wide: p.Wide - wide, High: p.High, Depth: p.Depth})
	wantPonds(t, call, got, ok, want, true)
	wantInt(t, call, id, ok, greatest+1, true)
	again, ok := impl.JoinPonds(got, p.Id, id)
	wantPonds(t, call+" joined", again, ok, list, true)
}

// checkPair holds what is asked for two Ponds, or for one twice, against the cells.
func checkPair(t *testing.T, list []impl.Pond, cells grid, sides map[[2]int]int, p impl.Pond, q impl.Pond) {
	t.Helper()
	call := fmt.Sprint(list, p.Id, q.Id)
	way := bestWay(list, sides, []int{p.Id}, q.Id)
	got, ok := impl.Chain(list, p.Id, q.Id)
	wantInts(t, "Chain "+call, got, ok, way, way != nil)
	bank, ok := impl.BankOf(list, p.Id, q.Id)
	wantInt(t, "BankOf "+call, bank, ok, sides[[2]int{p.Id, q.Id}], p.Id != q.Id)
	var joined []impl.Pond
	if p.Id != q.Id {
		joined = joinedBy(list, cells, p, q)
	}
	result, ok := impl.JoinPonds(list, p.Id, q.Id)
	wantPonds(t, "JoinPonds "+call, result, ok, joined, joined != nil)
}

// checkPonds holds every function against the cells of Ponds.
func checkPonds(t *testing.T, list []impl.Pond) {
	t.Helper()
	list, check := guarded(t, list)
	if !impl.ArePonds(list) {
		t.Error("Ponds:", list)
	}
	cells, _ := cellsOf(list)
	sides := cells.sides()
	checkCells(t, list, cells)
	for _, p := range list {
		checkPond(t, list, p, sides)
		for _, q := range list {
			checkPair(t, list, cells, sides, p, q)
		}
	}
	check()
}

// expectNothing wants zero values of each function with two Ids and a number.
func expectNothing(t *testing.T, list []impl.Pond, a int, b int, n int) {
	t.Helper()
	call := fmt.Sprint(" ", list[:min(len(list), 12)], a, b, n)
	cubic, ok := impl.HoldsCubic(list, a)
	wantInt(t, "HoldsCubic"+call, cubic, ok, 0, false)
	outer, ok := impl.OuterBank(list, a)
	wantInt(t, "OuterBank"+call, outer, ok, 0, false)
	neighbors, ok := impl.NeighborsOf(list, a)
	wantInts(t, "NeighborsOf"+call, neighbors, ok, nil, false)
	cut, id, ok := impl.CutPond(list, a, n)
	wantPonds(t, "CutPond"+call, cut, ok, nil, false)
	wantInt(t, "CutPond"+call, id, ok, 0, false)
	for _, c := range [][2]int{{a, b}, {b, a}, {a, a}} {
		bank, ok := impl.BankOf(list, c[0], c[1])
		wantInt(t, "BankOf"+call, bank, ok, 0, false)
		way, ok := impl.Chain(list, c[0], c[1])
		wantInts(t, "Chain"+call, way, ok, nil, false)
		joined, ok := impl.JoinPonds(list, c[0], c[1])
		wantPonds(t, "JoinPonds"+call, joined, ok, nil, false)
	}
}

func TestIsPond(t *testing.T) {
	for _, p := range limitPonds {
		if !impl.IsPond(p) {
			t.Errorf("a Pond: %+v", p)
		}
	}
	for _, p := range noPonds {
		if impl.IsPond(p) {
			t.Errorf("no Pond: %+v", p)
		}
	}
}

// TestIsPondOfAllSpans tries both directions apart from each other.
func TestIsPondOfAllSpans(t *testing.T) {
	for start := -3; start <= 53; start++ {
		for length := -3; length <= 53; length++ {
			want := start >= 0 && start <= 49 && length >= 1 && length <= 20 && start+length-1 <= 49
			across := impl.Pond{Id: 7, Left: start, Top: 4, Wide: length, High: 3, Depth: 20}
			down := impl.Pond{Id: 7, Left: 4, Top: start, Wide: 3, High: length, Depth: 20}
			if impl.IsPond(across) != want || impl.IsPond(down) != want {
				t.Error("from", start, "on", length, "cells: not", want)
			}
		}
	}
	for n := -3; n <= 210; n++ {
		if impl.IsPond(impl.Pond{Id: n, Wide: 1, High: 1, Depth: 9}) != (n >= 1 && n <= 99) {
			t.Error("Id", n)
		}
		if impl.IsPond(impl.Pond{Id: 9, Wide: 1, High: 1, Depth: n}) != (n >= 5 && n <= 200) {
			t.Error("Depth", n)
		}
	}
}

func TestPonds(t *testing.T) {
	for _, list := range goodLists() {
		checkPonds(t, list)
	}
}

func TestNoPonds(t *testing.T) {
	for _, list := range badLists() {
		list, check := guarded(t, list)
		if impl.ArePonds(list) {
			t.Error("no Ponds:", list)
		}
		for _, c := range [][2]int{{1, 2}, {2, 3}, {9, 5}, {3, 90}} {
			expectNothing(t, list, c[0], c[1], 1)
		}
		for _, p := range list[:min(len(list), 12)] {
			expectNothing(t, list, p.Id, list[0].Id, 1)
		}
		id, ok := impl.PondAt(list, 1, 1)
		wantInt(t, fmt.Sprint("PondAt ", list), id, ok, 0, false)
		free, ok := impl.FreeCells(list)
		wantInt(t, fmt.Sprint("FreeCells ", list), free, ok, 0, false)
		check()
	}
}

func TestIdsThatAreNotInTheList(t *testing.T) {
	for _, list := range goodLists()[:40] {
		list, check := guarded(t, list)
		for id := 1; id <= 99; id++ {
			if !slices.ContainsFunc(list, func(p impl.Pond) bool { return p.Id == id }) {
				expectNothing(t, list, id, id+1, 1)
				if len(list) > 0 {
					expectNothing(t, list, id, list[0].Id, 1)
				}
			}
		}
		for _, id := range badIds {
			expectNothing(t, list, id, 1, 1)
			expectNothing(t, list, id, 0, 1)
			expectNothing(t, list, id, math.MaxInt, math.MaxInt)
		}
		check()
	}
}

// TestTwoPonds puts a Pond to each place around another one: apart, at a side, at a corner, on it.
func TestTwoPonds(t *testing.T) {
	first := impl.Pond{Id: 4, Left: 6, Top: 7, Wide: 3, High: 2, Depth: 30}
	for _, size := range [][2]int{{1, 1}, {3, 2}, {2, 3}, {5, 1}, {4, 5}} {
		for left := range 12 {
			for top := range 12 {
				list := []impl.Pond{first, {Id: 8, Left: left, Top: top, Wide: size[0], High: size[1], Depth: 20}}
				if _, apart := cellsOf(list); apart {
					checkPonds(t, list)
					continue
				}
				if impl.ArePonds(list) {
					t.Error("a cell in common:", list)
				}
				expectNothing(t, list, 4, 8, 1)
			}
		}
	}
}

func TestHoldsCubic(t *testing.T) {
	list := []impl.Pond{
		{Id: 1, Wide: 4, High: 3, Depth: 30}, {Id: 2, Left: 49, Top: 49, Wide: 1, High: 1, Depth: 5},
		{Id: 98, Left: 20, Wide: 20, High: 20, Depth: 200}, {Id: 99, Left: 5, Wide: 1, High: 1, Depth: 199},
	}
	for id, want := range map[int]int{1: 360, 2: 5, 98: 80000, 99: 199} {
		got, ok := impl.HoldsCubic(list, id)
		wantInt(t, fmt.Sprint("HoldsCubic ", id), got, ok, want, true)
	}
}

func TestPondAt(t *testing.T) {
	list := []impl.Pond{{Id: 1, Wide: 4, High: 2, Depth: 30}, {Id: 7, Left: 44, Top: 47, Wide: 6, High: 3, Depth: 30}}
	for _, c := range []struct{ x, y, want int }{
		{0, 0, 1}, {3, 1, 1}, {4, 1, 0}, {3, 2, 0}, {1, 3, 0}, {49, 49, 7}, {44, 47, 7}, {43, 47, 0}, {44, 46, 0}, {47, 44, 0}, {49, 0, 0}, {0, 49, 0},
	} {
		got, ok := impl.PondAt(list, c.x, c.y)
		wantInt(t, fmt.Sprint("PondAt ", c.x, c.y), got, ok, c.want, true)
	}
	for _, n := range []int{-1, -50, 50, 51, 1 << 32, math.MaxInt, math.MinInt} {
		for _, c := range [][2]int{{n, 0}, {0, n}, {n, n}, {49, n}, {n, 49}} {
			for _, ponds := range [][]impl.Pond{list, nil, fullGrid()} {
				got, ok := impl.PondAt(ponds, c[0], c[1])
				wantInt(t, fmt.Sprint("PondAt ", c), got, ok, 0, false)
			}
		}
	}
}

func TestBanksOfAPicture(t *testing.T) {
	list := drawn("1111..", "11112.", "333425", "333.2.", "6...2.")
	for _, c := range []struct{ a, b, want int }{
		{1, 2, 1}, {1, 3, 3}, {1, 4, 1}, {2, 4, 1}, {3, 4, 1}, {2, 5, 1}, {3, 6, 1}, {2, 3, 0}, {1, 5, 0}, {1, 6, 0}, {5, 6, 0}, {4, 6, 0}, {4, 5, 0},
	} {
		one, ok := impl.BankOf(list, c.a, c.b)
		wantInt(t, fmt.Sprint("BankOf ", c.a, c.b), one, ok, c.want, true)
		other, ok := impl.BankOf(list, c.b, c.a)
		wantInt(t, fmt.Sprint("BankOf ", c.b, c.a), other, ok, c.want, true)
	}
	for id, want := range map[int][]int{1: {2, 3, 4}, 2: {1, 4, 5}, 3: {1, 4, 6}, 4: {1, 2, 3}, 5: {2}, 6: {3}} {
		got, ok := impl.NeighborsOf(list, id)
		wantInts(t, fmt.Sprint("NeighborsOf ", id), got, ok, want, true)
	}
	for id, want := range map[int]int{1: 7, 2: 7, 3: 5, 4: 1, 5: 3, 6: 3} {
		got, ok := impl.OuterBank(list, id)
		wantInt(t, fmt.Sprint("OuterBank ", id), got, ok, want, true)
	}
}

func TestPondsThatTouchAtACorner(t *testing.T) {
	for _, list := range [][]impl.Pond{
		drawn("11..", "11..", "..22"), drawn("..11", "..11", "22.."), drawn("1.2", ".3.", "4.5"), moved(drawn("1.", ".2"), 48, 48),
	} {
		for _, p := range list {
			neighbors, ok := impl.NeighborsOf(list, p.Id)
			wantInts(t, fmt.Sprint("NeighborsOf ", list, p.Id), neighbors, ok, nil, true)
			outer, ok := impl.OuterBank(list, p.Id)
			wantInt(t, fmt.Sprint("OuterBank ", list, p.Id), outer, ok, 2*(p.Wide+p.High), true)
			for _, q := range list {
				if p.Id == q.Id {
					continue
				}
				bank, ok := impl.BankOf(list, p.Id, q.Id)
				wantInt(t, fmt.Sprint("BankOf ", list, p.Id, q.Id), bank, ok, 0, true)
				way, ok := impl.Chain(list, p.Id, q.Id)
				wantInts(t, fmt.Sprint("Chain ", list, p.Id, q.Id), way, ok, nil, false)
				joined, ok := impl.JoinPonds(list, p.Id, q.Id)
				wantPonds(t, fmt.Sprint("JoinPonds ", list, p.Id, q.Id), joined, ok, nil, false)
			}
		}
	}
}

func TestLongestBanks(t *testing.T) {
	list := fullGrid()
	for _, c := range []struct{ a, b, want int }{{11, 22, 20}, {11, 44, 20}, {33, 66, 10}, {88, 99, 10}, {11, 55, 0}, {11, 99, 0}, {22, 33, 20}} {
		got, ok := impl.BankOf(list, c.a, c.b)
		wantInt(t, fmt.Sprint("BankOf ", c.a, c.b), got, ok, c.want, true)
	}
	for id, want := range map[int]int{11: 40, 22: 20, 33: 30, 55: 0, 99: 20} {
		got, ok := impl.OuterBank(list, id)
		wantInt(t, fmt.Sprint("OuterBank ", id), got, ok, want, true)
	}
}

// TestBanksOfBothSides is the promise of the chapter, without the cells.
func TestBanksOfBothSides(t *testing.T) {
	for _, list := range goodLists() {
		for _, p := range list {
			around, _ := impl.OuterBank(list, p.Id)
			neighbors, _ := impl.NeighborsOf(list, p.Id)
			for _, q := range list {
				one, okOne := impl.BankOf(list, p.Id, q.Id)
				other, okOther := impl.BankOf(list, q.Id, p.Id)
				if one != other || okOne != (p.Id != q.Id) || okOther != okOne || (one > 0) != slices.Contains(neighbors, q.Id) {
					t.Errorf("BankOf %v %d %d: %d and %d", list, p.Id, q.Id, one, other)
				}
				around += one
			}
			if around != 2*(p.Wide+p.High) {
				t.Errorf("the banks of %d in %v are %d cells long", p.Id, list, around)
			}
		}
	}
}

func TestChain(t *testing.T) {
	square := drawn("123", "456", "789")
	turned := drawn("987", "654", "321")
	shorter := drawn("12.", "43.", "455")
	ring := drawn("9.1", "9.1", "285")
	apart := drawn("11.3", "2..4", "...5")
	for _, c := range []struct {
		list     []impl.Pond
		from, to int
		want     []int
	}{
		{square, 1, 1, []int{1}}, {square, 5, 5, []int{5}}, {square, 9, 9, []int{9}},
		{square, 1, 2, []int{1, 2}}, {square, 1, 9, []int{1, 2, 3, 6, 9}}, {square, 9, 1, []int{9, 6, 3, 2, 1}}, {square, 3, 7, []int{3, 2, 1, 4, 7}},
		{square, 7, 3, []int{7, 4, 1, 2, 3}}, {square, 1, 5, []int{1, 2, 5}}, {square, 5, 1, []int{5, 2, 1}}, {square, 6, 8, []int{6, 5, 8}}, {square, 8, 6, []int{8, 5, 6}},
		{turned, 9, 1, []int{9, 6, 3, 2, 1}}, {turned, 1, 9, []int{1, 2, 3, 6, 9}},
		{shorter, 1, 5, []int{1, 4, 5}}, {shorter, 5, 1, []int{5, 4, 1}}, {shorter, 2, 5, []int{2, 3, 5}}, {shorter, 1, 3, []int{1, 2, 3}}, {shorter, 2, 4, []int{2, 1, 4}},
		{ring, 9, 1, []int{9, 2, 8, 5, 1}}, {ring, 1, 9, []int{1, 5, 8, 2, 9}}, {ring, 9, 9, []int{9}},
		{apart, 1, 2, []int{1, 2}}, {apart, 3, 5, []int{3, 4, 5}}, {apart, 5, 3, []int{5, 4, 3}},
		{rowOf(10, 90), 90, 99, []int{90, 91, 92, 93, 94, 95, 96, 97, 98, 99}}, {rowOf(10, 1), 10, 1, []int{10, 9, 8, 7, 6, 5, 4, 3, 2, 1}},
		{fullGrid(), 11, 99, []int{11, 22, 33, 66, 99}}, {rowOf(1, 99), 99, 99, []int{99}},
	} {
		got, ok := impl.Chain(c.list, c.from, c.to)
		wantInts(t, fmt.Sprint("Chain ", c.list, c.from, c.to), got, ok, c.want, true)
	}
	for _, c := range [][2]int{{1, 3}, {3, 1}, {2, 4}, {2, 5}, {5, 2}, {1, 6}, {6, 1}, {6, 6}, {0, 0}, {0, 1}, {1, 0}, {-1, 1}, {100, 100}, {math.MaxInt, 1}, {1, math.MinInt}} {
		got, ok := impl.Chain(apart, c[0], c[1])
		wantInts(t, fmt.Sprint("Chain ", apart, c), got, ok, nil, false)
	}
}

func TestJoinPonds(t *testing.T) {
	list := drawn("11233", "11244", "55...")
	for _, c := range []struct {
		a, b int
		want []impl.Pond
	}{
		{1, 2, []impl.Pond{{Id: 1, Wide: 3, High: 2, Depth: 10}, list[2], list[3], list[4]}},
		{2, 1, []impl.Pond{{Id: 2, Wide: 3, High: 2, Depth: 10}, list[2], list[3], list[4]}},
		{3, 4, []impl.Pond{list[0], list[1], {Id: 3, Left: 3, Wide: 2, High: 2, Depth: 30}, list[4]}},
		{4, 3, []impl.Pond{list[0], list[1], {Id: 4, Left: 3, Wide: 2, High: 2, Depth: 30}, list[4]}},
		{1, 5, []impl.Pond{{Id: 1, Wide: 2, High: 3, Depth: 10}, list[1], list[2], list[3]}},
		{5, 1, []impl.Pond{list[1], list[2], list[3], {Id: 5, Wide: 2, High: 3, Depth: 10}}},
	} {
		got, ok := impl.JoinPonds(list, c.a, c.b)
		wantPonds(t, fmt.Sprint("JoinPonds ", c.a, c.b), got, ok, c.want, true)
	}
	for _, c := range [][2]int{{1, 3}, {2, 3}, {3, 2}, {2, 4}, {2, 5}, {4, 5}, {1, 1}, {5, 5}, {1, 6}, {6, 1}, {0, 1}, {1, -1}, {math.MaxInt, 2}, {2, math.MinInt}} {
		got, ok := impl.JoinPonds(list, c[0], c[1])
		wantPonds(t, fmt.Sprint("JoinPonds ", c), got, ok, nil, false)
	}
}

func TestPondsThatFormNoRectangle(t *testing.T) {
	for _, list := range [][]impl.Pond{
		drawn("1.2"), drawn("1", ".", "2"), drawn("11", "2."), drawn("11", ".2"), drawn("11.", ".22"), drawn("1.", "12", ".2"),
		drawn("1322"), drawn("1", "3", "2"), drawn("111", "..2"), drawn("12", "1."), drawn("12", ".2"), drawn("1.", ".2"),
		drawn("11.22", "11.22"), drawn("111", ".2."), drawn("1.", "12", "1."),
	} {
		if !impl.ArePonds(list) {
			t.Error("Ponds:", list)
		}
		for _, c := range [][2]int{{1, 2}, {2, 1}} {
			got, ok := impl.JoinPonds(list, c[0], c[1])
			wantPonds(t, fmt.Sprint("JoinPonds ", list, c), got, ok, nil, false)
		}
	}
}

func TestJoinPondsUpToTheGreatest(t *testing.T) {
	for _, c := range []struct {
		wide int
		ok   bool
	}{{1, true}, {9, true}, {10, true}, {11, false}, {20, false}} {
		across := []impl.Pond{{Id: 1, Wide: 10, High: 2, Depth: 200}, {Id: 99, Left: 10, Wide: c.wide, High: 2, Depth: 5}}
		down := []impl.Pond{{Id: 1, Left: 20, Top: 30, Wide: 2, High: 10, Depth: 5}, {Id: 99, Left: 20, Top: 30 - c.wide, Wide: 2, High: c.wide, Depth: 200}}
		var wantAcross, wantDown []impl.Pond
		if c.ok {
			wantAcross = []impl.Pond{{Id: 99, Wide: 10 + c.wide, High: 2, Depth: 5}}
			wantDown = []impl.Pond{{Id: 1, Left: 20, Top: 30 - c.wide, Wide: 2, High: 10 + c.wide, Depth: 5}}
		}
		got, ok := impl.JoinPonds(across, 99, 1)
		wantPonds(t, fmt.Sprint("JoinPonds ", across), got, ok, wantAcross, c.ok)
		got, ok = impl.JoinPonds(down, 1, 99)
		wantPonds(t, fmt.Sprint("JoinPonds ", down), got, ok, wantDown, c.ok)
	}
	full := rowOf(10, 90)
	got, ok := impl.JoinPonds(full, 94, 93)
	want := append(slices.Clone(full[:3]), impl.Pond{Id: 94, Left: 6, Wide: 4, High: 2, Depth: 50})
	wantPonds(t, "JoinPonds of a full list", got, ok, append(want, full[5:]...), true)
}

func TestCutPond(t *testing.T) {
	list := []impl.Pond{{Id: 3, Left: 45, Top: 40, Wide: 5, High: 10, Depth: 40}, {Id: 7, Wide: 2, High: 1, Depth: 5}, {Id: 20, Left: 2, Wide: 1, High: 20, Depth: 200}}
	for _, c := range []struct {
		id, wide      int
		first, second impl.Pond
	}{
		{3, 1, impl.Pond{Id: 3, Left: 45, Top: 40, Wide: 1, High: 10, Depth: 40}, impl.Pond{Id: 21, Left: 46, Top: 40, Wide: 4, High: 10, Depth: 40}},
		{3, 2, impl.Pond{Id: 3, Left: 45, Top: 40, Wide: 2, High: 10, Depth: 40}, impl.Pond{Id: 21, Left: 47, Top: 40, Wide: 3, High: 10, Depth: 40}},
		{3, 4, impl.Pond{Id: 3, Left: 45, Top: 40, Wide: 4, High: 10, Depth: 40}, impl.Pond{Id: 21, Left: 49, Top: 40, Wide: 1, High: 10, Depth: 40}},
		{7, 1, impl.Pond{Id: 7, Wide: 1, High: 1, Depth: 5}, impl.Pond{Id: 21, Left: 1, Wide: 1, High: 1, Depth: 5}},
	} {
		want := slices.Clone(list)
		for i := range want {
			if want[i].Id == c.id {
				want[i] = c.first
			}
		}
		got, id, ok := impl.CutPond(list, c.id, c.wide)
		wantPonds(t, fmt.Sprint("CutPond ", c.id, c.wide), got, ok, append(want, c.second), true)
		wantInt(t, fmt.Sprint("CutPond ", c.id, c.wide), id, ok, 21, true)
	}
	for _, c := range [][2]int{
		{3, 0}, {3, 5}, {3, 6}, {3, -1}, {7, 0}, {7, 2}, {20, 0}, {20, 1}, {20, 2}, {21, 1}, {4, 1}, {0, 1}, {-3, 1}, {100, 1},
		{3, 20}, {3, 1 << 32}, {3, 1<<32 + 1}, {3, math.MaxInt}, {3, math.MinInt}, {math.MaxInt, 1}, {math.MinInt, 1},
	} {
		got, id, ok := impl.CutPond(list, c[0], c[1])
		wantPonds(t, fmt.Sprint("CutPond ", c), got, ok, nil, false)
		wantInt(t, fmt.Sprint("CutPond ", c), id, ok, 0, false)
	}
}

func TestCutPondOfFullLists(t *testing.T) {
	for _, c := range []struct {
		list []impl.Pond
		want int
	}{
		{rowOf(1, 1), 2}, {rowOf(9, 1), 10}, {rowOf(10, 1), 0}, {rowOf(9, 90), 99}, {rowOf(9, 91), 0}, {rowOf(10, 90), 0},
		{rowOf(1, 98), 99}, {rowOf(1, 99), 0}, {append(rowOf(1, 1), impl.Pond{Id: 99, Top: 9, Wide: 1, High: 1, Depth: 9}), 0},
		{append(rowOf(8, 1), impl.Pond{Id: 98, Top: 9, Wide: 1, High: 1, Depth: 9}), 99},
	} {
		for _, p := range c.list {
			if p.Wide == 1 {
				continue
			}
			got, id, ok := impl.CutPond(c.list, p.Id, 1)
			wantInt(t, fmt.Sprint("CutPond ", c.list, p.Id), id, ok, c.want, c.want > 0)
			if ok && (len(got) != len(c.list)+1 || !impl.ArePonds(got)) || !ok && len(got) > 0 {
				t.Error("CutPond", c.list, p.Id, "gave", got)
			}
		}
	}
}

func TestFreeCells(t *testing.T) {
	for _, c := range []struct {
		list []impl.Pond
		want int
	}{
		{nil, 2500}, {[]impl.Pond{}, 2500}, {rowOf(1, 1), 2496}, {rowOf(10, 1), 2460}, {fullGrid(), 0}, {fullGrid()[:8], 100},
		{[]impl.Pond{{Id: 5, Left: 30, Top: 30, Wide: 20, High: 20, Depth: 9}}, 2100}, {drawn("1111.", "11112", "33342", "333.2"), 2482},
	} {
		got, ok := impl.FreeCells(c.list)
		wantInt(t, fmt.Sprint("FreeCells ", c.list), got, ok, c.want, true)
	}
}

func TestPondResultsAreApart(t *testing.T) {
	list := drawn("1123", "1123")
	before := slices.Clone(list)
	for range 2 {
		joined, ok := impl.JoinPonds(list, 2, 3)
		wantPonds(t, "JoinPonds", joined, ok, []impl.Pond{list[0], {Id: 2, Left: 2, Wide: 2, High: 2, Depth: 20}}, true)
		cut, _, ok := impl.CutPond(list, 1, 1)
		wantPonds(t, "CutPond", cut, ok, []impl.Pond{{Id: 1, Wide: 1, High: 2, Depth: 10}, list[1], list[2], {Id: 4, Left: 1, Wide: 1, High: 2, Depth: 10}}, true)
		neighbors, ok := impl.NeighborsOf(list, 2)
		wantInts(t, "NeighborsOf", neighbors, ok, []int{1, 3}, true)
		way, ok := impl.Chain(list, 1, 3)
		wantInts(t, "Chain", way, ok, []int{1, 2, 3}, true)
		clear(joined[:cap(joined)])
		clear(cut[:cap(cut)])
		clear(neighbors[:cap(neighbors)])
		clear(way[:cap(way)])
		if !slices.Equal(list, before) {
			t.Fatal("a result shares memory with its argument", list)
		}
	}
}
