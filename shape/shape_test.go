package shape

import (
	"math"
	"math/rand"
	"slices"
	"testing"

	"carling/api"
)

// model is a shape that is written out item by item.
type model struct {
	level  []int
	kids   [][]int
	parent []int // -1 of the root
	at     []int
	under  [][]int
}

// modelOf lays nodes over the items of a level, one by one, till a level of nodes has one.
func modelOf(pages int) model {
	var m model
	var row []int
	for p := range pages {
		m.add(0, nil, []int{p})
		row = append(row, p)
	}
	for level := 1; level == 1 || len(row) > 1; level++ {
		var next []int
		for len(row) > 0 {
			var kids, under []int
			for len(row) > 0 && len(kids) < 6 {
				kids, under, row = append(kids, row[0]), append(under, m.under[row[0]]...), row[1:]
			}
			node := len(m.level)
			m.add(level, kids, under)
			for at, kid := range kids {
				m.parent[kid], m.at[kid] = node, at
			}
			next = append(next, node)
		}
		row = next
	}
	return m
}

func (m *model) add(level int, kids, under []int) {
	m.level = append(m.level, level)
	m.kids = append(m.kids, kids)
	m.parent = append(m.parent, -1)
	m.at = append(m.at, 0)
	m.under = append(m.under, under)
}

// path is the way from an item to the root.
func (m model) path(item int) []int {
	path := []int{item}
	for m.parent[item] >= 0 {
		item = m.parent[item]
		path = append(path, item)
	}
	return path
}

func made(t *testing.T, pages int) Shape {
	t.Helper()
	s, e := New(pages)
	if e != api.OK {
		t.Fatal(pages, e)
	}
	return s
}

// eachShape tries all shapes that there may be.
func eachShape(t *testing.T, try func(s Shape, m model)) {
	t.Helper()
	for pages := 1; pages <= 216; pages++ {
		try(made(t, pages), modelOf(pages))
	}
}

// strays are numbers that are no items, blocks or pages of a shape that has so many of them from first on.
func strays(first, many int) []int {
	return []int{first - 1, -1, -2, -6, -7, -1000, math.MinInt, math.MinInt + 1, math.MinInt32, first + many, first + many + 1, first + many + 6, 1000, 1 << 16, 1 << 32, 1<<32 + 2, math.MaxInt32, math.MaxInt - 1, math.MaxInt}
}

// P12.1: there may be 1 to 216 pages.
func TestNew(t *testing.T) {
	for pages := 1; pages <= 216; pages++ {
		if s := made(t, pages); s.Pages() != pages {
			t.Fatal(pages, s.Pages())
		}
	}
	for _, pages := range []int{0, -1, -7, -216, 217, 218, 256, 1000, 1 << 16, 1<<32 + 1, math.MaxInt32, math.MaxInt, math.MinInt, math.MinInt + 1} {
		if s, e := New(pages); e != api.ErrArg || s != (Shape{}) {
			t.Fatal(pages, s, e)
		}
	}
}

// P12.1: how much there is of a shape, counted by hand.
func TestSizes(t *testing.T) {
	for _, c := range []struct{ pages, items, blocks, levels int }{
		{1, 2, 6, 2},
		{2, 3, 8, 2},
		{5, 6, 14, 2},
		{6, 7, 16, 2},
		{7, 10, 22, 3},
		{12, 15, 32, 3},
		{13, 17, 36, 3},
		{35, 42, 86, 3},
		{36, 43, 88, 3},
		{37, 47, 96, 4},
		{42, 52, 106, 4},
		{43, 54, 110, 4},
		{72, 87, 176, 4},
		{73, 90, 182, 4},
		{180, 216, 434, 4},
		{181, 219, 440, 4},
		{215, 258, 518, 4},
		{216, 259, 520, 4},
	} {
		s := made(t, c.pages)
		if s.Pages() != c.pages || s.Items() != c.items || s.Blocks() != c.blocks || s.Levels() != c.levels || s.Root() != c.items-1 {
			t.Fatal(c, s.Items(), s.Blocks(), s.Levels(), s.Root())
		}
	}
}

// P12.1, P12.2: example 1: 7 pages.
func TestSevenPages(t *testing.T) {
	s := made(t, 7)
	if s.Pages() != 7 || s.Items() != 10 || s.Blocks() != 22 || s.Levels() != 3 || s.Root() != 9 {
		t.Fatal(s.Pages(), s.Items(), s.Blocks(), s.Levels(), s.Root())
	}
	for item, want := range []struct {
		level, parent, at int
		ok                bool
		kids, under       []int
	}{
		{0, 7, 0, true, nil, []int{0}},
		{0, 7, 1, true, nil, []int{1}},
		{0, 7, 2, true, nil, []int{2}},
		{0, 7, 3, true, nil, []int{3}},
		{0, 7, 4, true, nil, []int{4}},
		{0, 7, 5, true, nil, []int{5}},
		{0, 8, 0, true, nil, []int{6}},
		{1, 9, 0, true, []int{0, 1, 2, 3, 4, 5}, []int{0, 1, 2, 3, 4, 5}},
		{1, 9, 1, true, []int{6}, []int{6}},
		{2, 0, 0, false, []int{7, 8}, []int{0, 1, 2, 3, 4, 5, 6}},
	} {
		parent, at, ok := s.Parent(item)
		if s.Level(item) != want.level || parent != want.parent || at != want.at || ok != want.ok {
			t.Fatal(item, s.Level(item), parent, at, ok)
		}
		if !slices.Equal(s.Kids(item), want.kids) || !slices.Equal(s.Under(item), want.under) {
			t.Fatal(item, s.Kids(item), s.Under(item))
		}
	}
	if !slices.Equal(s.Path(0), []int{0, 7, 9}) || !slices.Equal(s.Path(5), []int{5, 7, 9}) || !slices.Equal(s.Path(6), []int{6, 8, 9}) {
		t.Fatal(s.Path(0), s.Path(5), s.Path(6))
	}
	if s.Block(0, 0) != 2 || s.Block(0, 1) != 3 || s.Block(9, 0) != 20 || s.Block(9, 1) != 21 {
		t.Fatal(s.Block(0, 0), s.Block(0, 1), s.Block(9, 0), s.Block(9, 1))
	}
}

// P12.1: one page has a node over it: there is one level of nodes at least.
func TestOnePage(t *testing.T) {
	s := made(t, 1)
	parent, at, ok := s.Parent(0)
	if parent != 1 || at != 0 || !ok || s.Level(0) != 0 || s.Level(1) != 1 || s.Root() != 1 {
		t.Fatal(parent, at, ok, s.Level(0), s.Level(1), s.Root())
	}
	if !slices.Equal(s.Kids(1), []int{0}) || !slices.Equal(s.Under(1), []int{0}) || !slices.Equal(s.Path(0), []int{0, 1}) {
		t.Fatal(s.Kids(1), s.Under(1), s.Path(0))
	}
}

// P12.1: an item's level, parent and kids in all shapes, item by item.
func TestItemsOfAll(t *testing.T) {
	eachShape(t, func(s Shape, m model) {
		if s.Items() != len(m.level) || s.Blocks() != 2+2*len(m.level) || s.Root() != len(m.level)-1 || s.Levels() != slices.Max(m.level)+1 {
			t.Fatal(s, s.Items(), s.Blocks(), s.Root(), s.Levels())
		}
		for item := range m.level {
			if s.Level(item) != m.level[item] || !slices.Equal(s.Kids(item), m.kids[item]) {
				t.Fatal(s, item, s.Level(item), s.Kids(item))
			}
			parent, at, ok := s.Parent(item)
			wantParent, wantAt, wantOK := m.parent[item], m.at[item], m.parent[item] >= 0
			if !wantOK {
				wantParent = 0
			}
			if parent != wantParent || at != wantAt || ok != wantOK {
				t.Fatal(s, item, parent, at, ok)
			}
		}
	})
}

// P12.2: what lies under an item, and the way from a page, in all shapes.
func TestWaysOfAll(t *testing.T) {
	eachShape(t, func(s Shape, m model) {
		for item := range m.level {
			if !slices.Equal(s.Under(item), m.under[item]) {
				t.Fatal(s, item, s.Under(item))
			}
			var want []int
			if item < s.Pages() {
				want = m.path(item)
			}
			if !slices.Equal(s.Path(item), want) {
				t.Fatal(s, item, s.Path(item))
			}
		}
	})
}

// P12.1, P12.2: the greatest shape, whose levels are all full.
func TestGreatest(t *testing.T) {
	s := made(t, 216)
	for item, level := range map[int]int{0: 0, 215: 0, 216: 1, 251: 1, 252: 2, 257: 2, 258: 3} {
		if s.Level(item) != level {
			t.Fatal(item, s.Level(item))
		}
	}
	if !slices.Equal(s.Path(215), []int{215, 251, 257, 258}) || !slices.Equal(s.Kids(258), []int{252, 253, 254, 255, 256, 257}) {
		t.Fatal(s.Path(215), s.Kids(258))
	}
	under := s.Under(257)
	if len(under) != 36 || under[0] != 180 || under[35] != 215 || len(s.Under(258)) != 216 {
		t.Fatal(under, len(s.Under(258)))
	}
}

// P12.1, P12.2: a last node has what is left, at every level.
func TestWhatIsLeft(t *testing.T) {
	s := made(t, 37)
	if !slices.Equal(s.Kids(43), []int{36}) || !slices.Equal(s.Kids(45), []int{43}) || !slices.Equal(s.Kids(46), []int{44, 45}) {
		t.Fatal(s.Kids(43), s.Kids(45), s.Kids(46))
	}
	if !slices.Equal(s.Under(45), []int{36}) || len(s.Under(44)) != 36 || !slices.Equal(s.Path(36), []int{36, 43, 45, 46}) {
		t.Fatal(s.Under(45), s.Under(44), s.Path(36))
	}
}

// P12.1, P12.2: there is nothing of an item that there is not.
func TestNoItem(t *testing.T) {
	eachShape(t, func(s Shape, m model) {
		for _, item := range strays(0, len(m.level)) {
			if item >= 0 && item < len(m.level) {
				continue
			}
			if parent, at, ok := s.Parent(item); parent != 0 || at != 0 || ok {
				t.Fatal(s, item, parent, at, ok)
			}
			if s.Level(item) != -1 || len(s.Kids(item)) != 0 || len(s.Under(item)) != 0 || len(s.Path(item)) != 0 || s.Block(item, 0) != -1 || s.Block(item, 1) != -1 {
				t.Fatal(s, item, s.Level(item), s.Kids(item), s.Under(item), s.Path(item), s.Block(item, 0), s.Block(item, 1))
			}
		}
	})
}

// P12.2: an item has two blocks, behind the two of the head.
func TestBlocks(t *testing.T) {
	eachShape(t, func(s Shape, m model) {
		for item := range m.level {
			if s.Block(item, 0) != 2+2*item || s.Block(item, 1) != 3+2*item {
				t.Fatal(s, item, s.Block(item, 0), s.Block(item, 1))
			}
			for _, place := range []int{-1, -2, 2, 3, 256, 1 << 32, 1<<32 + 1, math.MaxInt, math.MinInt} {
				if s.Block(item, place) != -1 {
					t.Fatal(s, item, place, s.Block(item, place))
				}
			}
		}
	})
}

// P12.2: there is no item of the head's blocks, and of those that there are not.
func TestNoBlock(t *testing.T) {
	eachShape(t, func(s Shape, m model) {
		for _, block := range append(strays(2, 2*len(m.level)), 0, 1) {
			if block >= 2 && block < 2+2*len(m.level) {
				continue
			}
			if item, place, ok := s.Item(block); item != 0 || place != 0 || ok {
				t.Fatal(s, block, item, place, ok)
			}
		}
	})
}

// P12.2: the zero shape has none of anything.
func TestZero(t *testing.T) {
	var s Shape
	if s.Pages() != 0 || s.Items() != 0 || s.Blocks() != 0 || s.Levels() != 0 || s.Root() != -1 {
		t.Fatal(s.Pages(), s.Items(), s.Blocks(), s.Levels(), s.Root())
	}
	for _, n := range append(strays(0, 0), 0, 1, 2, 3, 4, 5, 6, 7, 216) {
		parent, at, ok := s.Parent(n)
		item, place, there := s.Item(n)
		if parent != 0 || at != 0 || ok || item != 0 || place != 0 || there {
			t.Fatal(n, parent, at, ok, item, place, there)
		}
		if s.Level(n) != -1 || s.Block(n, 0) != -1 || s.Block(n, 1) != -1 || len(s.Kids(n)) != 0 || len(s.Path(n)) != 0 || len(s.Under(n)) != 0 {
			t.Fatal(n, s.Level(n), s.Block(n, 0), s.Block(n, 1), s.Kids(n), s.Path(n), s.Under(n))
		}
	}
}

// P12.3: each item but the root is a child of one node, and that is its parent.
func TestOneParent(t *testing.T) {
	eachShape(t, func(s Shape, _ model) {
		parents := make([]int, s.Items())
		for node := range s.Items() {
			for at, kid := range s.Kids(node) {
				parents[kid]++
				parent, place, ok := s.Parent(kid)
				if parent != node || place != at || !ok || s.Level(kid)+1 != s.Level(node) {
					t.Fatal(s, node, kid, parent, place, ok)
				}
			}
		}
		for item, n := range parents {
			if item == s.Root() && n != 0 || item != s.Root() && n != 1 {
				t.Fatal(s, item, n)
			}
		}
	})
}

// P12.4: items and blocks lead to each other.
func TestItemsAndBlocks(t *testing.T) {
	eachShape(t, func(s Shape, _ model) {
		seen := 0
		for block := range s.Blocks() {
			item, place, ok := s.Item(block)
			if ok != (block > 1) || ok && s.Block(item, place) != block {
				t.Fatal(s, block, item, place, ok)
			}
			if ok {
				seen++
			}
		}
		for item := range s.Items() {
			for place := range 2 {
				if i, p, ok := s.Item(s.Block(item, place)); i != item || p != place || !ok {
					t.Fatal(s, item, place, i, p, ok)
				}
			}
		}
		if seen != 2*s.Items() {
			t.Fatal(s, seen)
		}
	})
}

// P12.5: all pages lie under the root, each under one child of each node on its path.
func TestAllPagesUnderRoot(t *testing.T) {
	eachShape(t, func(s Shape, _ model) {
		if all := s.Under(s.Root()); len(all) != s.Pages() || !slices.IsSorted(all) || all[0] != 0 || all[len(all)-1] != s.Pages()-1 {
			t.Fatal(s, all)
		}
		for page := range s.Pages() {
			path := s.Path(page)
			if len(path) != s.Levels() || path[0] != page || path[len(path)-1] != s.Root() {
				t.Fatal(s, page, path)
			}
			for i, node := range path[1:] {
				var over []int
				for _, kid := range s.Kids(node) {
					if slices.Contains(s.Under(kid), page) {
						over = append(over, kid)
					}
				}
				if !slices.Equal(over, path[i:i+1]) {
					t.Fatal(s, page, node, over)
				}
			}
		}
	})
}

// R3, R4: what is answered is the caller's: to write into it, or behind it, turns nothing else.
func TestAnswersAreTheCallers(t *testing.T) {
	eachShape(t, func(s Shape, m model) {
		for item := range m.level {
			for _, list := range []func(int) []int{s.Kids, s.Under, s.Path} {
				first, second := list(item), list(item)
				want := slices.Clone(first)
				for i := range first {
					first[i] = -5
				}
				_ = append(first, -6)
				if !slices.Equal(second, want) || !slices.Equal(list(item), want) {
					t.Fatal(s, item, second, list(item))
				}
			}
		}
	})
}

// R3, R4: the levels' list is cut: who adds to it leaves no trace behind it.
func TestLevelsAreCut(t *testing.T) {
	eachShape(t, func(s Shape, _ model) {
		if l := s.levels(); len(l) != s.Levels() || cap(l) != len(l) {
			t.Fatal(s, len(l), cap(l))
		}
	})
}

// R3: shapes of the same pages are the same; a copy of one is one; those of other pages are others.
func TestShapesAreValues(t *testing.T) {
	for range 200 {
		a, b := 1+rand.Intn(216), 1+rand.Intn(216)
		s, u := made(t, a), made(t, b)
		v := s
		s = u
		if v != made(t, a) || s != u || (u == v) != (a == b) || v.Pages() != a || s.Items() != u.Items() {
			t.Fatal(a, b)
		}
	}
}
