package tests

import (
	"fmt"
	"slices"
	"testing"

	"loop.example/g01393/impl"
)

func TestLoanTable(t *testing.T) {
	const most = impl.MaxSums
	for _, c := range []struct {
		cents, rate, payment, count int64
		interests, rests            []int64
	}{
		{1000, 1000, 600, 2, []int64{100, 50}, []int64{500, 0}},
		{1000, 1000, 550, 2, []int64{100, 55}, []int64{550, 55}},
		{1000, 0, 334, 4, []int64{0, 0, 0, 0}, []int64{666, 332, 0, 0}},
		{1000, 1000, 0, 3, []int64{100, 110, 121}, []int64{1100, 1210, 1331}},
		{1000, 1000, 50, 3, []int64{100, 105, 111}, []int64{1050, 1105, 1166}}, // 110.5 is 111
		{1000, 1000, 100, 3, []int64{100, 100, 100}, []int64{1000, 1000, 1000}},
		{1000, 1000, 1100, 2, []int64{100, 0}, []int64{0, 0}},
		{1000, 1000, 1099, 2, []int64{100, 0}, []int64{1, 0}},
		{0, 100000, 0, 2, []int64{0, 0}, []int64{0, 0}},
		{0, 100000, 5, 1, []int64{0}, []int64{0}},
		{50, 100, 0, 1, []int64{1}, []int64{51}}, // a half
		{49, 100, 0, 1, []int64{0}, []int64{49}},
		{most, 100000, 0, 2, []int64{10 * most, 110 * most}, []int64{11 * most, 121 * most}},
		{most, 0, most, 1, []int64{0}, []int64{0}},
	} {
		interests, rests, ok := impl.LoanTable(c.cents, c.rate, c.payment, c.count)
		what := fmt.Sprintf("LoanTable(%d, %d, %d, %d)", c.cents, c.rate, c.payment, c.count)
		isList(t, what, interests, ok, c.interests...)
		isList(t, what, rests, ok, c.rests...)
	}
	interests, rests, ok := impl.LoanTable(1000, 0, 1, impl.MaxTerms)
	if !ok || len(interests) != impl.MaxTerms || len(rests) != impl.MaxTerms || rests[impl.MaxTerms-1] != 880 {
		t.Errorf("LoanTable with MaxTerms: got %v %v %v", interests, rests, ok)
	}
}

// No rest may be greater than 10^12, but one may be just that.
func TestLoanTableGreatestRest(t *testing.T) {
	const most = impl.MaxSums
	isNone(t, "LoanTable with 1331 billions", results(impl.LoanTable(most, 100000, 0, 3)))
	isNone(t, "LoanTable with 1331 billions, and then more", results(impl.LoanTable(most, 100000, 0, impl.MaxTerms)))
	for _, c := range []struct{ cents, rate, terms int64 }{
		{100000000, 90000, 4}, // 10 times as much in each term
		{10000000, 90000, 5},
		{1000, 90000, 9},
		{1, 90000, 12},
	} {
		_, rests, ok := impl.LoanTable(c.cents, c.rate, 0, c.terms)
		what := fmt.Sprintf("LoanTable(%d, %d, 0, %d)", c.cents, c.rate, c.terms)
		if !ok || rests[c.terms-1] != 1000000000000 {
			t.Errorf("%s: got %v %v, want 10^12 at last", what, rests, ok)
		}
		isNone(t, what+" with one term more", results(impl.LoanTable(c.cents, c.rate, 0, c.terms+1)))
		isNone(t, what+" with one cent more", results(impl.LoanTable(c.cents+1, c.rate, 0, c.terms)))
	}
	// What counts is the rest behind a term, which a payment has made less.
	_, rests, ok := impl.LoanTable(100000000, 90000, 1, 4)
	isTrue(t, "LoanTable to 10^12 less payments", ok && rests[3] == 1000000000000-1111)
	_, rests, ok = impl.LoanTable(100001111, 90000, 10000, 4)
	isTrue(t, "LoanTable to 10^12 and a payment", ok && rests[3] == 1000000000000)
}

func TestLoanPayment(t *testing.T) {
	const most = impl.MaxSums
	for _, c := range []struct{ cents, rate, count, want int64 }{
		{1000, 0, 3, 334},
		{1000, 0, 1, 1000},
		{1000, 0, 4, 250},
		{1000, 0, impl.MaxTerms, 9},
		{0, 100000, 1, 0},
		{0, 100000, impl.MaxTerms, 0},
		{1, 0, impl.MaxTerms, 1},
		{1000, 1000, 1, 1100},
		{1000, 1000, 2, 576}, // 576 and 524, which become 576.4
		{most, 0, 1, most},
		{most, 0, impl.MaxTerms, 8333334},
		{most / 11, 100000, 1, 999999990},
		{most, 100, 2, 507512438},
	} {
		got, ok := impl.LoanPayment(c.cents, c.rate, c.count)
		what := fmt.Sprintf("LoanPayment(%d, %d, %d)", c.cents, c.rate, c.count)
		isTold(t, what, got, ok, c.want)
	}
	// The payment may be MaxSums, but not more.
	got, ok := impl.LoanPayment(900000000, 1111, 1)
	isTold(t, "LoanPayment of almost MaxSums", got, ok, 999990000)
	got, ok = impl.LoanPayment(most/2, 10000, 1)
	isTold(t, "LoanPayment of MaxSums", got, ok, most)
	isNone(t, "LoanPayment of one cent more", results(impl.LoanPayment(most/2+1, 10000, 1)))
	isNone(t, "LoanPayment above MaxSums", results(impl.LoanPayment(most, 1, 1)))
	isNone(t, "LoanPayment of less than interest", results(impl.LoanPayment(most, 10001, impl.MaxTerms)))
	isNone(t, "LoanPayment that can never do", results(impl.LoanPayment(most, 100000, impl.MaxTerms)))
}

func TestLoanCount(t *testing.T) {
	const most = impl.MaxSums
	for _, c := range []struct{ cents, rate, payment, count, last int64 }{
		{1000, 0, 334, 3, 332},
		{1000, 0, 333, 4, 1},
		{1000, 0, 500, 2, 500},
		{1000, 0, 1000, 1, 1000},
		{1000, 0, most, 1, 1000},
		{1000, 1000, 600, 2, 550},
		{1000, 1000, 1100, 1, 1100},
		{1000, 1000, 1099, 2, 1},
		{0, 0, 0, 1, 0},
		{0, 100000, 0, 1, 0},
		{0, 100000, 7, 1, 0},
		{120, 0, 1, impl.MaxTerms, 1},
		{119 * 7, 0, 7, 119, 7},
		{119*7 + 1, 0, 7, impl.MaxTerms, 1},
		{most, 0, 8333334, impl.MaxTerms, most - 119*8333334},
		{most / 11, 100000, most, 1, 999999990},
	} {
		count, last, ok := impl.LoanCount(c.cents, c.rate, c.payment)
		isList(t, fmt.Sprintf("LoanCount(%d, %d, %d)", c.cents, c.rate, c.payment), []int64{count, last}, ok, c.count, c.last)
	}
	isNone(t, "LoanCount without payment", results(impl.LoanCount(1000, 0, 0)))
	isNone(t, "LoanCount of more than MaxTerms", results(impl.LoanCount(121, 0, 1)))
	isNone(t, "LoanCount of more than MaxTerms", results(impl.LoanCount(most, 0, 8333333)))
	isNone(t, "LoanCount with interest that is all of it", results(impl.LoanCount(1000, 1000, 100)))
	isNone(t, "LoanCount with interest that is more", results(impl.LoanCount(1000, 1000, 99)))
	isNone(t, "LoanCount with a rest above 10^12", results(impl.LoanCount(most, 100000, most)))
}

// slowLoan returns interests, rests and what payments take, by exact fractions.
func slowLoan(cents, rate, payment int64, count int) (interests, rests, taken []int64) {
	rest := cents
	for range count {
		interest := slowNear(quotient(rest, rate, 10000))
		take := payment
		if rest+interest < take {
			take = rest + interest
		}
		rest += interest - take
		interests, rests, taken = append(interests, interest), append(rests, rest), append(taken, take)
		if rest > 1000000000000 {
			break
		}
	}
	return interests, rests, taken
}

func TestLoansByFractions(t *testing.T) {
	g := lcg(61)
	for range 3000 {
		cents, rate := g.below(g.one(10, 1000, impl.MaxSums)), g.below(g.one(0, 100, 1000, 100000))
		payment := g.below(max(1, g.one(cents/100, cents/10, cents, impl.MaxSums)))
		for _, count := range []int{1, 2, 3, 12, impl.MaxTerms} {
			what := fmt.Sprintf("(%d, %d, %d, %d)", cents, rate, payment, count)
			wantInterests, wantRests, taken := slowLoan(cents, rate, payment, count)
			interests, rests, ok := impl.LoanTable(cents, rate, payment, int64(count))
			if slices.Max(wantRests) > 1000000000000 {
				isTrue(t, "LoanTable fails"+what, !ok && interests == nil && rests == nil)
				continue
			}
			isList(t, "LoanTable"+what, interests, ok, wantInterests...)
			isList(t, "LoanTable"+what, rests, ok, wantRests...)
			if count == impl.MaxTerms {
				last := slices.Index(wantRests, 0)
				terms, took, ok := impl.LoanCount(cents, rate, payment)
				if ok != (last >= 0) || ok && (terms != int64(last+1) || took != taken[last]) {
					t.Errorf("LoanCount%s: got %d %d %v, want %d", what, terms, took, ok, last+1)
				}
			}
		}
	}
}

// The least payments are those that a search from 0 on finds, cent by cent.
func TestLoanPaymentByCounting(t *testing.T) {
	for _, cents := range []int64{0, 1, 2, 3, 49, 50, 51, 100, 149, 150, 777} {
		for _, rate := range []int64{0, 1, 99, 100, 101, 1000, 5000, 10000, 33333} {
			for _, count := range []int{1, 2, 3, 5, 17, impl.MaxTerms} {
				want := int64(0)
				for {
					_, rests, _ := slowLoan(cents, rate, want, count)
					if rests[len(rests)-1] == 0 {
						break
					}
					want++
				}
				got, ok := impl.LoanPayment(cents, rate, int64(count))
				what := fmt.Sprintf("LoanPayment(%d, %d, %d)", cents, rate, count)
				isTold(t, what, got, ok, want)
			}
		}
	}
}
