package tests

import (
	"fmt"
	"slices"
	"testing"
	"time"

	"loop.example/g01393/impl"
)

func TestDayOfAndDateOf(t *testing.T) {
	for _, c := range []struct{ year, month, day, number int64 }{
		{2000, 1, 1, 0},
		{2000, 1, 31, 30},
		{2000, 2, 1, 31},
		{2000, 2, 29, 59},
		{2000, 3, 1, 60},
		{2000, 12, 31, 365},
		{2001, 1, 1, 366},
		{2001, 2, 28, 424},
		{2001, 3, 1, 425},
		{2004, 2, 29, 1520},
		{2096, 2, 29, 35123},
		{2099, 2, 28, 36218},
		{2099, 12, 31, lastDay},
	} {
		number, ok := impl.DayOf(c.year, c.month, c.day)
		what := fmt.Sprintf("DayOf(%d, %d, %d)", c.year, c.month, c.day)
		isTold(t, what, number, ok, c.number)
		year, month, day, ok := impl.DateOf(c.number)
		isList(t, fmt.Sprintf("DateOf(%d)", c.number), []int64{year, month, day}, ok, c.year, c.month, c.day)
	}
}

// All days are those that the calendar of the library has.
func TestAllDays(t *testing.T) {
	for number := range int64(lastDay + 1) {
		date := timeOf(number)
		want := []int64{int64(date.Year()), int64(date.Month()), int64(date.Day())}
		year, month, day, ok := impl.DateOf(number)
		isList(t, fmt.Sprintf("DateOf(%d)", number), []int64{year, month, day}, ok, want...)
		back, ok := impl.DayOf(year, month, day)
		isTold(t, fmt.Sprintf("DayOf(%d, %d, %d)", year, month, day), back, ok, number)
	}
	if date := timeOf(lastDay); date.Format(time.DateOnly) != "2099-12-31" {
		t.Errorf("the last day is %v", date)
	}
}

// There are no other dates.
func TestNoDates(t *testing.T) {
	count := 0
	for year := int64(1999); year <= 2100; year++ {
		for month := int64(-1); month <= 14; month++ {
			for day := int64(-1); day <= 33; day++ {
				number, ok := impl.DayOf(year, month, day)
				if !ok {
					isInt(t, fmt.Sprintf("DayOf(%d, %d, %d)", year, month, day), number, 0)
					continue
				}
				count++
			}
		}
	}
	isInt(t, "the number of dates", int64(count), lastDay+1)
	for _, c := range [][3]int64{{2001, 2, 29}, {2000, 2, 30}, {2099, 2, 29}, {2004, 4, 31}, {2004, 6, 31}, {2004, 9, 31}, {2004, 11, 31}, {2004, 1, 32}, {2004, 0, 1}, {2004, 13, 1}, {2004, 1, 0}, {1999, 12, 31}, {2100, 1, 1}} {
		isNone(t, fmt.Sprintf("DayOf%v", c), results(impl.DayOf(c[0], c[1], c[2])))
	}
}

func TestDaysBetween(t *testing.T) {
	leap := dayAt(2000, 2, 29)
	for _, c := range []struct{ from, to, days, thirties int64 }{
		{0, 0, 0, 0},
		{lastDay, lastDay, 0, 0},
		{29, 30, 1, 0},
		{30, 30, 0, 0},
		{30, 31, 1, 1},
		{29, 31, 2, 1},
		{28, 30, 2, 1},
		{30, leap, 29, 29},
		{30, leap + 1, 30, 31},
		{30, leap + 31, 60, 60},
		{leap, leap + 1, 1, 2},
		{leap, leap + 31, 31, 31},
		{leap, leap + 366, 366, 362},
		{leap - 1, leap, 1, 1},
		{dayAt(2001, 2, 28), dayAt(2001, 3, 1), 1, 3},
		{dayAt(2001, 12, 31), dayAt(2002, 1, 1), 1, 1},
		{dayAt(2001, 12, 30), dayAt(2002, 1, 31), 32, 30},
		{0, 366, 366, 360},
		{0, lastDay, lastDay, 35999},
	} {
		for kind, want := range [][]int64{{c.days, 365}, {c.days, 360}, {c.thirties, 360}} {
			n, m, ok := impl.DaysBetween(int64(kind), c.from, c.to)
			isList(t, fmt.Sprintf("DaysBetween(%d, %d, %d)", kind, c.from, c.to), []int64{n, m}, ok, want...)
		}
	}
	isNone(t, "DaysBetween back", results(impl.DaysBetween(0, 1, 0)))
}

// slowThirties counts months of 30 days by the calendar of the library.
func slowThirties(from, to int64) int64 {
	number := func(date time.Time) int {
		day := date.Day()
		if day == 31 {
			day = 30
		}
		return (date.Year()*12+int(date.Month()))*30 + day
	}
	return int64(number(timeOf(to)) - number(timeOf(from)))
}

func TestDaysBetweenAll(t *testing.T) {
	days := someDays()
	for _, from := range days {
		for _, to := range days {
			for kind, want := range [][]int64{{to - from, 365}, {to - from, 360}, {slowThirties(from, to), 360}} {
				n, m, ok := impl.DaysBetween(int64(kind), from, to)
				if ok != (from <= to) || ok && !slices.Equal([]int64{n, m}, want) || !ok && (n != 0 || m != 0) {
					t.Errorf("DaysBetween(%d, %d, %d): got %d %d %v, want %v", kind, from, to, n, m, ok, want)
				}
			}
		}
	}
}

func TestInterestOf(t *testing.T) {
	const most = impl.MaxSums
	for _, c := range []struct{ cents, rate, kind, from, to, want int64 }{
		{10000, 365, 0, 0, 100, 100},
		{10000, 360, 1, 0, 100, 100},
		{10000, 360, 2, 0, 100, 99},
		{10000, 360, 2, 0, 99, 98},
		{10000, 365, 0, 7, 7, 0},
		{0, 100000, 0, 0, lastDay, 0},
		{10000, 0, 0, 0, lastDay, 0},
		{36500, 100, 0, 10, 11, 1},
		{18250, 100, 0, 10, 11, 1}, // a half
		{18249, 100, 0, 10, 11, 0},
		{54750, 100, 0, 10, 11, 2}, // one and a half
		{54749, 100, 0, 10, 11, 1},
		{18000, 100, 1, 10, 11, 1},
		{17999, 100, 1, 10, 11, 0},
		{18000, 100, 2, 29, 31, 1},
		{18000, 100, 2, 29, 30, 0},
		{18000, 100, 2, 30, 31, 1},
		{most, 100000, 0, 0, lastDay, 1000657534247},
		{most, 100000, 1, 0, lastDay, 1014555555556},
		{most, 100000, 2, 0, lastDay, 999972222222},
	} {
		got, ok := impl.InterestOf(c.cents, c.rate, c.kind, c.from, c.to)
		what := fmt.Sprintf("InterestOf(%d, %d, %d, %d, %d)", c.cents, c.rate, c.kind, c.from, c.to)
		isTold(t, what, got, ok, c.want)
	}
	isNone(t, "InterestOf a time back", results(impl.InterestOf(1, 1, 0, 5, 4)))
}

// slowInterest returns interest by exact fractions.
func slowInterest(cents, rate, kind, from, to int64) int64 {
	days, year := to-from, int64(365)
	if kind > 0 {
		year = 360
	}
	if kind == 2 {
		days = slowThirties(from, to)
	}
	return slowNear(quotient(cents*rate, days, 10000*year))
}

func TestInterestByFractions(t *testing.T) {
	g := lcg(51)
	days := someDays()
	for range 10000 {
		from, to := days[g.below(int64(len(days)-1))], g.below(lastDay)
		from, to = min(from, to), max(from, to)
		cents, rate := g.below(g.one(10, 100000, impl.MaxSums)), g.below(g.one(10, 1000, 100000))
		for kind := range int64(3) {
			got, ok := impl.InterestOf(cents, rate, kind, from, to)
			what := fmt.Sprintf("InterestOf(%d, %d, %d, %d, %d)", cents, rate, kind, from, to)
			isTold(t, what, got, ok, slowInterest(cents, rate, kind, from, to))
		}
	}
}

func TestInterestByRates(t *testing.T) {
	for _, c := range []struct {
		cents          int64
		days, rates    []int64
		kind, from, to int64
		want           int64
	}{
		{10000, []int64{0, 50}, []int64{365, 730}, 0, 0, 100, 150},
		{10000, []int64{0}, []int64{365}, 0, 0, 100, 100},
		{10000, []int64{0, 50}, []int64{365, 730}, 0, 50, 100, 100},
		{10000, []int64{0, 50}, []int64{365, 730}, 0, 0, 50, 50},
		{10000, []int64{0, 50}, []int64{365, 730}, 0, 0, 51, 52},
		{10000, []int64{0, 50}, []int64{365, 730}, 0, 49, 51, 3},
		{10000, []int64{0, 50, lastDay}, []int64{365, 730, 100000}, 0, 60, 60, 0},
		{10000, []int64{0, 50, 100}, []int64{365, 730, 100000}, 0, 0, 100, 150},
		{10000, []int64{0, 10, 20, 300}, []int64{100000, 365, 730, 100000}, 0, 10, 30, 30},
		{10000, []int64{100}, []int64{365}, 0, 100, 200, 100},
		// Each part is rounded on its own: two halves are two.
		{18250, []int64{0, 11}, []int64{100, 100}, 0, 10, 12, 2},
		{18249, []int64{0, 11}, []int64{100, 100}, 0, 10, 12, 0},
		// Parts that begin or end with a 31st are counted on their own, too.
		{36000, []int64{0, 30}, []int64{100, 200}, 2, 29, 31, 2},
		{36000, []int64{0, 31}, []int64{100, 200}, 2, 30, 32, 3},
	} {
		got, ok := impl.InterestByRates(c.cents, c.days, c.rates, c.kind, c.from, c.to)
		what := fmt.Sprintf("InterestByRates(%d, %v, %v, %d, %d, %d)", c.cents, c.days, c.rates, c.kind, c.from, c.to)
		isTold(t, what, got, ok, c.want)
	}
	isNone(t, "InterestByRates before the first rate", results(impl.InterestByRates(5, []int64{11}, []int64{5}, 0, 10, 20)))
	isNone(t, "InterestByRates of a time back", results(impl.InterestByRates(5, []int64{0, 5}, []int64{5, 5}, 0, 10, 9)))
}

// slowByRates finds the rate of each day by itself, and joins days that have
// the rate of one place.
func slowByRates(cents int64, days, rates []int64, kind, from, to int64) int64 {
	sum := int64(0)
	start := from
	for day := from + 1; day <= to; day++ {
		if slices.Contains(days, day) || day == to {
			place := 0
			for place+1 < len(days) && days[place+1] <= start {
				place++
			}
			sum += slowInterest(cents, rates[place], kind, start, day)
			start = day
		}
	}
	return sum
}

func TestInterestByRatesDayByDay(t *testing.T) {
	g := lcg(52)
	for range 3000 {
		var days, rates []int64
		for range 1 + g.below(impl.MaxParts-1) {
			days = append(days, g.below(g.one(40, 400, 4000)))
		}
		slices.Sort(days)
		days = slices.Compact(days)
		for range days {
			rates = append(rates, g.below(g.one(10, 100000)))
		}
		from := days[0] + g.below(300)
		to := from + g.below(g.one(0, 3, 60, 3000))
		cents, kind := g.below(g.one(100000, impl.MaxSums)), g.below(2)
		got, ok := impl.InterestByRates(cents, days, rates, kind, from, to)
		what := fmt.Sprintf("InterestByRates(%d, %v, %v, %d, %d, %d)", cents, days, rates, kind, from, to)
		isTold(t, what, got, ok, slowByRates(cents, days, rates, kind, from, to))
	}
}

func TestPenaltyOf(t *testing.T) {
	const most = impl.MaxSums
	for _, c := range []struct{ cents, rate, most, from, to, want int64 }{
		{1000, 100, 250, 0, 100, 25},
		{1000, 100, 400, 0, 100, 40},
		{1000, 100, 399, 0, 100, 40},
		{1000, 100, 394, 0, 100, 39},
		{1000, 100, 100000, 0, 100, 40},
		{1000, 100, 100000, 5, 5, 0},
		{1000, 100, 100000, 5, 6, 10},
		{1000, 100, 100000, 0, 31, 10},           // 1 January to 1 February
		{1000, 100, 100000, 0, 32, 20},           // a day more
		{1000, 100, 100000, 30, 31, 10},          // 31 January to 1 February
		{1000, 100, 100000, 30, 59, 10},          // to 29 February
		{1000, 100, 100000, 30, 60, 20},          // to 1 March
		{1000, 100, 100000, 30, 90, 20},          // to 31 March
		{1000, 100, 100000, 365, 366, 10},        // 31 December to 1 January
		{1000, 100, 100000, 0, 366, 120},         // a year
		{1000, 100, 100000, 0, 367, 130},         // a year and a day
		{1000, 0, 100000, 0, lastDay, 0},         // no rate
		{1000, 100, 0, 0, lastDay, 0},            // at most nothing
		{0, 100, 100, 0, lastDay, 0},             // nothing owed
		{50, 100, 100, 0, 1, 1},                  // a half
		{49, 100, 100, 0, 1, 0},                  // less than a half
		{150, 100, 100, 0, 1, 2},                 // one and a half
		{50, 100, 300, 0, 70, 2},                 // 3 months are rounded together
		{50, 300, 100, 0, 1, 1},                  // the most is rounded, too
		{most, 100000, 100000, 0, lastDay, 1e10}, // 1000 percent
	} {
		got, ok := impl.PenaltyOf(c.cents, c.rate, c.most, c.from, c.to)
		what := fmt.Sprintf("PenaltyOf(%d, %d, %d, %d, %d)", c.cents, c.rate, c.most, c.from, c.to)
		isTold(t, what, got, ok, c.want)
	}
	isNone(t, "PenaltyOf a time back", results(impl.PenaltyOf(1000, 100, 250, 6, 5)))
}

// slowMonths counts the months that begin before a day, one after another.
func slowMonths(from, to int64) int64 {
	first, last := timeOf(from), timeOf(to)
	number := func(year, month, day int) int { return (year*12+month)*32 + day }
	end := number(last.Year(), int(last.Month()), last.Day())
	months := int64(0)
	for number(first.Year(), int(first.Month())+int(months), first.Day()) < end {
		months++
	}
	return months
}

func TestPenaltyOfMonths(t *testing.T) {
	days := someDays()
	for i, from := range days {
		for _, to := range days[i:] {
			got, ok := impl.PenaltyOf(10000, 1, 100000, from, to)
			isTold(t, fmt.Sprintf("months that have begun from %d to %d", from, to), got, ok, slowMonths(from, to))
		}
	}
	g := lcg(53)
	for range 3000 {
		from, to := g.below(lastDay), g.below(lastDay)
		from, to = min(from, to), max(from, to)
		cents, rate, most := g.below(g.one(100, impl.MaxSums)), g.below(g.one(100, 100000)), g.below(100000)
		want := min(slowNear(quotient(cents*rate, slowMonths(from, to), 10000)), slowNear(quotient(cents, most, 10000)))
		got, ok := impl.PenaltyOf(cents, rate, most, from, to)
		isTold(t, fmt.Sprintf("PenaltyOf(%d, %d, %d, %d, %d)", cents, rate, most, from, to), got, ok, want)
	}
}
