"""Points 13 to 15, and of point 3 what they bear: ties, corners, nets that say the same or don't."""

import itertools
import unittest

from arrowfind.errors import Unlike
from arrowfind.nets import net_made
from arrowfind.partings import are_parted
from arrowfind.sameness import corners_of, say_same, ties_of, told_apart
from arrowfind.turning import chain_to
from tests.helper import (
    NAMES, Case, Dice, all_tied, by_places, by_turns, every_net, joined_above, slow_corners,
    slow_open, slow_partings, slow_tied, slow_ties, some_nets, steps_of, thrown_nets,
    turned_about,
)


def pairs_of_small_nets():
    """All pairs of nets with up to three names, some of those with four; with what each says."""
    for size in (1, 2, 3):
        told = [(net, slow_partings(net)) for net in every_net(size)]
        yield from itertools.product(told, repeat=2)
    told = [(net, slow_partings(net)) for net in every_net(4)]
    for place, first in enumerate(told):
        for second in told[place % 9::9]:
            yield first, second


def pairs_with_unlike_ties():
    for place, net in enumerate(thrown_nets(sizes=(5, 6, 7, 8), each=10)):
        names, arrows = net
        dice = Dice(place)
        gone = dice.throw(len(arrows))
        yield net, (names, arrows[:gone] + arrows[gone + 1:])
        yield turned_about(net, dice, 5), (names, arrows[:gone] + arrows[gone + 1:])
        gaps = [pair for pair in itertools.combinations(names, 2) if not slow_tied(net, *pair)]
        yield net, by_turns((names, arrows[:-1] + tuple(gaps[:3])), dice.shuffled(names))
        yield net, (names, ())
        yield net, all_tied(names)


def pairs_with_the_same_ties():
    for place, net in enumerate(thrown_nets(sizes=(4, 5, 6, 7, 8), each=10)):
        dice = Dice(place)
        for _ in range(8):
            yield net, by_turns(net, dice.shuffled(net[0]))


def pairs_that_say_the_same():
    for place, net in enumerate(thrown_nets(sizes=(4, 5, 6, 7, 8), each=10)):
        dice = Dice(place)
        for times in (0, 1, 3, 12):
            yield net, turned_about(net, dice, times)


class TiesTest(Case):
    def test_of_any_net(self):
        for net in some_nets():
            self.assertEqual(ties_of(net), slow_ties(net))

    def test_by_places_whichever_way_the_arrow_goes(self):
        net = net_made(["d", "c", "b", "a"], [("a", "d"), ("d", "b"), ("a", "b"), ("c", "a")])
        self.assertEqual(ties_of(net), [("d", "b"), ("d", "a"), ("c", "a"), ("b", "a")])

    def test_none(self):
        self.assertEqual(ties_of(net_made(["b", "a"], [])), [])
        self.assertEqual(ties_of(net_made(["a"], [])), [])

    def test_told_list_emptied(self):
        net = net_made(["a", "b"], [("b", "a")])
        ties_of(net).clear()
        self.assertEqual(ties_of(net), [("a", "b")])
        self.assertEqual(net, (("a", "b"), (("b", "a"),)))


class CornersTest(Case):
    def test_of_any_net(self):
        for net in some_nets():
            self.assertEqual(corners_of(net), list(by_places(net[0], slow_corners(net))))

    def test_the_one_ahead_of_the_other_in_the_names(self):
        for names in itertools.permutations(["a", "b", "c"]):
            ends = [name for name in names if name != "b"]
            net = net_made(list(names), [("a", "b"), ("c", "b")])
            self.assertEqual(corners_of(net), [(ends[0], "b", ends[1])])

    def test_a_middle_with_tied_elders_is_none(self):
        for tie in (("a", "c"), ("c", "a")):
            net = net_made(["a", "b", "c"], [("a", "b"), ("c", "b"), tie])
            self.assertEqual(corners_of(net), [])
        net = net_made(list("abcd"), [("a", "b"), ("c", "b"), ("d", "b"), ("c", "a")])
        self.assertEqual(corners_of(net), [("a", "b", "d"), ("c", "b", "d")])

    def test_passed_middles_are_none(self):
        for arrows in ([("a", "b"), ("b", "c")], [("b", "a"), ("b", "c")], [("b", "a"), ("c", "b")]):
            self.assertEqual(corners_of(net_made(["a", "b", "c"], arrows)), [])

    def test_sorted_by_one_then_middle_then_other(self):
        # By the ends, (e, d, b) would go ahead of (e, c, a): by the middle it doesn't.
        net = net_made(list("ecdba"), [("e", "d"), ("b", "d"), ("e", "c"), ("a", "c")])
        self.assertEqual(corners_of(net), [("e", "c", "a"), ("e", "d", "b")])
        net = net_made(list("ecdba"), [("e", "d"), ("b", "d"), ("a", "d"), ("c", "d")])
        self.assertEqual(corners_of(net), [
            ("e", "d", "c"), ("e", "d", "b"), ("e", "d", "a"),
            ("c", "d", "b"), ("c", "d", "a"), ("b", "d", "a"),
        ])

    def test_told_list_emptied(self):
        net = net_made(["a", "b", "c"], [("a", "b"), ("c", "b")])
        corners_of(net).clear()
        self.assertEqual(corners_of(net), [("a", "b", "c")])


class SameTest(Case):
    def test_just_where_all_partings_are_the_same(self):
        truths = []
        for (first, firsts), (second, seconds) in pairs_of_small_nets():
            truths.append(say_same(first, second))
            self.assertIs(truths[-1], firsts == seconds)
        self.assertEqual(set(truths), {True, False})

    def test_with_five_names(self):
        for place, net in enumerate(thrown_nets(sizes=(5,), each=10)):
            dice = Dice(place)
            firsts = slow_partings(net)
            for turns in (dice.shuffled(net[0]) for _ in range(5)):
                second = by_turns(net, turns)
                self.assertIs(say_same(net, second), firsts == slow_partings(second))

    def test_in_larger_nets(self):
        for first, second in pairs_that_say_the_same():
            self.assertIs(say_same(first, second), True)
            self.assertIs(say_same(second, first), True)
        for first, second in pairs_with_unlike_ties():
            self.assertIs(say_same(first, second), False)
            self.assertIs(say_same(second, first), False)

    def test_all_tied(self):
        self.assertIs(say_same(all_tied(NAMES), by_turns(all_tied(NAMES), NAMES[::-1])), True)

    def test_same_ties_and_unlike_corners(self):
        row = net_made(["a", "b", "c"], [("a", "b"), ("b", "c")])
        back = net_made(["a", "b", "c"], [("c", "b"), ("b", "a")])
        fork = net_made(["a", "b", "c"], [("b", "a"), ("b", "c")])
        corner = net_made(["a", "b", "c"], [("a", "b"), ("c", "b")])
        for first, second in itertools.product([row, back, fork], repeat=2):
            self.assertIs(say_same(first, second), True)
        for net in (row, back, fork):
            self.assertIs(say_same(net, corner), False)
            self.assertIs(say_same(corner, net), False)


class UnlikeTest(Case):
    def each_refused(self, first, second):
        for function in (say_same, told_apart, chain_to):
            self.refused(Unlike, function, first, second)
            self.refused(Unlike, function, second, first)

    def test_other_names(self):
        net = net_made(["a", "b"], [("a", "b")])
        self.each_refused(net, net_made(["a", "c"], [("a", "c")]))
        self.each_refused(net, net_made(["a", "b", "c"], [("a", "b")]))
        self.each_refused(net, net_made(["a"], []))
        self.each_refused(net_made(["a"], []), net_made(["b"], []))

    def test_the_same_names_in_another_order(self):
        self.each_refused(net_made(["a", "b"], [("a", "b")]), net_made(["b", "a"], [("a", "b")]))
        self.each_refused(net_made(["a", "b"], []), net_made(["b", "a"], []))
        self.each_refused(all_tied(NAMES), all_tied(NAMES[::-1]))


class ToldApartTest(Case):
    def is_told_right(self, first, second):
        told = told_apart(first, second)
        self.assertIs(type(told), tuple)
        one, other, held, truth, road = told
        self.assertIs(type(held), list)
        self.assertIs(type(truth), bool)
        self.assertIs(type(road), list)
        self.assertEqual(len({one, other, *held}), 2 + len(held))
        parting, open_one = (first, second) if truth else (second, first)
        self.assertFalse(joined_above(parting, one, other, held))
        self.assertTrue(are_parted(parting, one, other, held))
        self.assertEqual((road[0], road[-1]), (one, other))
        self.assertEqual(len(road), len(set(road)))
        self.assertTrue(all(slow_tied(open_one, *pair) for pair in zip(road, road[1:])))
        self.assertTrue(slow_open(open_one, road, held))
        return truth

    def test_small_nets(self):
        truths = []
        for (first, firsts), (second, seconds) in pairs_of_small_nets():
            if firsts == seconds:
                self.assertIs(told_apart(first, second), None)
            else:
                truths.append(self.is_told_right(first, second))
        self.assertEqual(set(truths), {True, False})

    def test_unlike_ties(self):
        for first, second in pairs_with_unlike_ties():
            self.is_told_right(first, second)
            self.is_told_right(second, first)

    def test_same_ties_and_unlike_corners(self):
        apart = 0
        for first, second in pairs_with_the_same_ties():
            if sorted(slow_corners(first)) == sorted(slow_corners(second)):
                self.assertIs(told_apart(first, second), None)
            else:
                apart += 1
                self.is_told_right(first, second)
                self.is_told_right(second, first)
        self.assertGreater(apart, 200)

    def test_none_where_they_say_the_same(self):
        for first, second in pairs_that_say_the_same():
            self.assertIs(told_apart(first, second), None)

    def test_one_tie_more(self):
        less = net_made(["a", "b"], [])
        more = net_made(["a", "b"], [("b", "a")])
        self.assertIn(told_apart(less, more), [("a", "b", [], True, ["a", "b"]), ("b", "a", [], True, ["b", "a"])])
        self.assertIn(told_apart(more, less), [("a", "b", [], False, ["a", "b"]), ("b", "a", [], False, ["b", "a"])])

    def test_one_corner(self):
        row = net_made(["a", "b", "c"], [("a", "b"), ("b", "c")])
        corner = net_made(["a", "b", "c"], [("a", "b"), ("c", "b")])
        for first, second in ((row, corner), (corner, row)):
            truth = self.is_told_right(first, second)
            self.assertEqual(told_apart(first, second)[2], ["b"] if truth is (first == row) else [])

    def test_told_lists_emptied_change_no_later_answer(self):
        row = net_made(["a", "b", "c"], [("a", "b"), ("b", "c")])
        corner = net_made(["a", "b", "c"], [("a", "b"), ("c", "b")])
        told = told_apart(row, corner)
        kept = (told[0], told[1], list(told[2]), told[3], list(told[4]))
        told[2].clear()
        self.assertEqual(told[4], kept[4])
        told[4].clear()
        self.assertEqual(told_apart(row, corner), kept)
        self.assertEqual(row, (("a", "b", "c"), (("a", "b"), ("b", "c"))))
        self.assertEqual(corner, (("a", "b", "c"), (("a", "b"), ("c", "b"))))


class MomentTest(Case):
    def test_eight_names_all_tied_or_all_but_two(self):
        net = all_tied(NAMES)
        nets = [net, by_turns(net, NAMES[::-1]), (net[0], net[1][1:]), (net[0], net[1][:-1])]
        for first in nets:
            self.assertLess(steps_of(ties_of, first), 20000)
            self.assertLess(steps_of(corners_of, first), 20000)
            for second in nets:
                self.assertLess(steps_of(say_same, first, second), 20000)
                self.assertLess(steps_of(told_apart, first, second), 20000)


if __name__ == "__main__":
    unittest.main()
