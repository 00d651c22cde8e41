package tests

import (
	"fmt"
	"math"
	"slices"
	"testing"

	"loop.example/g01393/impl"
)

// ruleTable is what functions of tables take.
type ruleTable struct {
	cases int64
	rows  []impl.Row
}

// rowsOf returns the rows that have Care, Is and Result one behind the other.
func rowsOf(numbers ...int64) []impl.Row {
	var rows []impl.Row
	for i := 0; i < len(numbers); i += 3 {
		rows = append(rows, impl.Row{Care: numbers[i], Is: numbers[i+1], Result: numbers[i+2]})
	}
	return rows
}

// goodTables has tables of all sizes, with rows that care for nothing and for all.
func goodTables() []ruleTable {
	all := []ruleTable{
		{1, rowsOf(0, 0, 0)}, {1, rowsOf(1, 1, 100)}, {1, rowsOf(1, 0, 7)}, {1, rowsOf(1, 1, 7, 1, 0, 8)}, {1, rowsOf(0, 0, 7, 1, 1, 8)},
		{2, rowsOf(1, 1, 7, 2, 0, 8)}, {2, rowsOf(3, 2, 7)}, {8, rowsOf(255, 255, 100, 255, 0, 0)}, {8, rowsOf(128, 128, 1)},
		{8, rowsOf(0, 0, 5)}, {8, slices.Repeat(rowsOf(0, 0, 5), impl.MaxRows)}, {3, slices.Repeat(rowsOf(7, 5, 5, 7, 5, 6), impl.MaxRows/2)},
	}
	g := lcg(35)
	for i := range int64(300) {
		table := ruleTable{cases: 1 + i%impl.MaxCases}
		last := int64(1)<<table.cases - 1
		for range 1 + g.below(g.one(2, 8, impl.MaxRows-1)) {
			care := g.below(last) & g.one(last, g.below(last), g.below(last))
			table.rows = append(table.rows, impl.Row{Care: care, Is: care & g.below(last), Result: g.below(g.one(1, 3, 100))})
		}
		all = append(all, table)
	}
	return all
}

// badTables has cases and rows that make no table, each for one reason.
func badTables() []ruleTable {
	fine := rowsOf(1, 1, 5)
	all := []ruleTable{{0, fine}, {9, fine}, {-1, fine}, {0, rowsOf(0, 0, 5)}, {math.MinInt64, fine}, {math.MaxInt64, fine}, {64, fine}, {-63, fine}, {65, fine}}
	for _, rows := range badRowLists() {
		all = append(all, ruleTable{2, rows})
	}
	return append(all, ruleTable{1, rowsOf(2, 0, 5)}, ruleTable{1, rowsOf(1, 0, 5, 2, 2, 5)}, ruleTable{8, rowsOf(256, 0, 5)}, ruleTable{8, rowsOf(256, 256, 5)}, ruleTable{8, rowsOf(-1, 0, 5)})
}

// badRowLists has lists that are no rows of two cases.
func badRowLists() [][]impl.Row {
	fine := rowsOf(1, 1, 5)
	all := [][]impl.Row{nil, {}, slices.Repeat(fine, impl.MaxRows+1)}
	bad := rowsOf(-1, 0, 5, 4, 0, 5, 4, 4, 5, 1, 2, 5, 1, 3, 5, 0, 1, 5, 2, 1, 5, 1, -1, 5, 3, -1, 5, 3, 4, 5, 3, 7, 5, 1, 1, -1, 1, 1, 101,
		math.MinInt64, 0, 5, math.MaxInt64, 0, 5, 1, math.MinInt64, 5, 1, math.MaxInt64, 5, 1, 1, math.MinInt64, 1, 1, math.MaxInt64)
	for i := range bad {
		all = append(all, bad[i:i+1], append(slices.Clone(fine), bad[i]), append(bad[i:i+1:i+1], fine...))
	}
	return all
}

// slowFits looks at one case after another.
func slowFits(r impl.Row, x int64) bool {
	for i := range impl.MaxCases {
		digit := int64(math.Pow(2, float64(i)))
		if r.Care/digit%2 == 1 && r.Is/digit%2 != x/digit%2 {
			return false
		}
	}
	return true
}

// slowFirst returns for each x the first row that fits it, or -1.
func slowFirst(table ruleTable) []int {
	var first []int
	for x := range int64(math.Pow(2, float64(table.cases))) {
		first = append(first, slices.IndexFunc(table.rows, func(r impl.Row) bool { return slowFits(r, x) }))
	}
	return first
}

func TestAreRows(t *testing.T) {
	for _, table := range goodTables() {
		isTrue(t, fmt.Sprintf("AreRows(%v)", table), impl.AreRows(table.cases, table.rows))
	}
	for _, table := range badTables() {
		isFalse(t, fmt.Sprintf("AreRows(%v)", table), impl.AreRows(table.cases, table.rows))
	}
}

func TestTables(t *testing.T) {
	for _, c := range []struct {
		table                        ruleTable
		gaps, clashes, first, counts []int64
	}{
		{ruleTable{1, rowsOf(1, 1, 7)}, []int64{0}, nil, []int64{0}, []int64{1}},
		{ruleTable{1, rowsOf(1, 0, 7)}, []int64{1}, nil, []int64{0}, []int64{1}},
		{ruleTable{1, rowsOf(1, 1, 7, 1, 0, 8)}, nil, nil, []int64{0, 1}, []int64{1, 1}},
		// Rows that care for nothing, and rows behind them, which are never the first ones.
		{ruleTable{1, rowsOf(0, 0, 7)}, nil, nil, []int64{0}, []int64{2}},
		{ruleTable{1, rowsOf(0, 0, 7, 1, 1, 8)}, nil, []int64{0, 1}, []int64{0}, []int64{2, 0}},
		{ruleTable{1, rowsOf(0, 0, 7, 1, 1, 7)}, nil, nil, []int64{0}, []int64{2, 0}},
		{ruleTable{1, rowsOf(1, 1, 8, 0, 0, 7)}, nil, []int64{0, 1}, []int64{0, 1}, []int64{1, 1}},
		{ruleTable{8, rowsOf(0, 0, 0, 0, 0, 100)}, nil, []int64{0, 1}, []int64{0}, []int64{256, 0}},
		{ruleTable{2, rowsOf(1, 1, 7, 2, 0, 8)}, []int64{2}, []int64{0, 1}, []int64{0, 1}, []int64{2, 1}},
		{ruleTable{2, rowsOf(1, 1, 7, 1, 0, 8, 2, 2, 9)}, nil, []int64{0, 2, 1, 2}, []int64{0, 1}, []int64{2, 2, 0}},
		{ruleTable{2, rowsOf(3, 0, 1, 3, 3, 2, 3, 2, 3)}, []int64{1}, nil, []int64{0, 1, 2}, []int64{1, 1, 1}},
		{ruleTable{3, rowsOf(7, 5, 1, 7, 5, 2, 7, 5, 1, 7, 5, 2)}, []int64{0, 1, 2, 3, 4, 6, 7}, []int64{0, 1, 0, 3, 1, 2, 2, 3}, []int64{0}, []int64{1, 0, 0, 0}},
		{ruleTable{3, rowsOf(6, 4, 1, 3, 1, 2, 5, 4, 3)}, []int64{0, 2, 3, 7}, []int64{0, 1, 0, 2}, []int64{0, 1, 2}, []int64{2, 1, 1}},
	} {
		got, ok := impl.RowGaps(c.table.cases, c.table.rows)
		isList(t, fmt.Sprintf("RowGaps(%v)", c.table), got, ok, c.gaps...)
		got, ok = impl.RowClashes(c.table.cases, c.table.rows)
		isList(t, fmt.Sprintf("RowClashes(%v)", c.table), got, ok, c.clashes...)
		got, ok = impl.FirstRows(c.table.cases, c.table.rows)
		isList(t, fmt.Sprintf("FirstRows(%v)", c.table), got, ok, c.first...)
		got, ok = impl.RowCounts(c.table.cases, c.table.rows)
		isList(t, fmt.Sprintf("RowCounts(%v)", c.table), got, ok, c.counts...)
	}
}

func TestRowAnswer(t *testing.T) {
	rows := rowsOf(1, 1, 7, 2, 0, 8)
	for x, want := range []int64{8, 7, -1, 7} {
		got, ok := impl.RowAnswer(2, rows, int64(x))
		if want < 0 {
			isNone(t, "RowAnswer of a gap", results(got, ok))
		} else {
			isTold(t, fmt.Sprintf("RowAnswer of %d", x), got, ok, want)
		}
	}
	got, ok := impl.RowAnswer(1, rowsOf(1, 0, 0), 0)
	isTold(t, "RowAnswer of the Result 0", got, ok, 0)
	got, ok = impl.RowAnswer(8, rowsOf(255, 255, 100), 255)
	isTold(t, "RowAnswer of the last x", got, ok, 100)
	for _, x := range []int64{-1, 4, 5, math.MinInt64, math.MaxInt64} {
		isNone(t, fmt.Sprintf("RowAnswer of %d", x), results(impl.RowAnswer(2, rowsOf(0, 0, 9), x)))
	}
	isNone(t, "RowAnswer of an x of more cases", results(impl.RowAnswer(8, rowsOf(0, 0, 9), 256)))
}

func TestTablesCaseByCase(t *testing.T) {
	for _, table := range goodTables() {
		var gaps, clashes, firstRows []int64
		counts := make([]int64, len(table.rows))
		for x, i := range slowFirst(table) {
			got, ok := impl.RowAnswer(table.cases, table.rows, int64(x))
			what := fmt.Sprintf("RowAnswer(%v, %d)", table, x)
			if i < 0 {
				gaps = append(gaps, int64(x))
				isNone(t, what, results(got, ok))
				continue
			}
			counts[i]++
			isTold(t, what, got, ok, table.rows[i].Result)
		}
		for i, a := range table.rows {
			if counts[i] > 0 {
				firstRows = append(firstRows, int64(i))
			}
			for k := i + 1; k < len(table.rows); k++ {
				together := false
				for x := range int64(1) << table.cases {
					together = together || slowFits(a, x) && slowFits(table.rows[k], x)
				}
				if together && a.Result != table.rows[k].Result {
					clashes = append(clashes, int64(i), int64(k))
				}
			}
		}
		got, ok := impl.RowGaps(table.cases, table.rows)
		isList(t, fmt.Sprintf("RowGaps(%v)", table), got, ok, gaps...)
		got, ok = impl.RowClashes(table.cases, table.rows)
		isList(t, fmt.Sprintf("RowClashes(%v)", table), got, ok, clashes...)
		got, ok = impl.FirstRows(table.cases, table.rows)
		isList(t, fmt.Sprintf("FirstRows(%v)", table), got, ok, firstRows...)
		got, ok = impl.RowCounts(table.cases, table.rows)
		isList(t, fmt.Sprintf("RowCounts(%v)", table), got, ok, counts...)
	}
}
