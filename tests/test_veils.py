"""Points 26 to 28, and of point 3 what they bear: nets with names hidden and held."""

import functools
import itertools
import unittest

from arrowfind.errors import NoName, Twice
from arrowfind.nets import net_made
from arrowfind.veils import join_paper, parted_in, road_in, veil_of
from tests.helper import (
    NAMES, Case, Dice, all_tied, every_net, joined_above, lists_of, shaped_nets, slow_above,
    slow_meetings, slow_partings, slow_tied, steps_of, thrown_nets,
)

said_by = functools.cache(slow_partings)


def few_names():
    return itertools.chain(every_net(1), every_net(2), every_net(3), every_net(4))


def larger_nets():
    return itertools.chain(thrown_nets(sizes=(5, 6), each=6), shaped_nets())


def every_hiding(net):
    """Each way to hide some names and hold some, down to none that are left."""
    for ways in itertools.product("left hidden held".split(), repeat=len(net[0])):
        hidden = [name for name, way in zip(net[0], ways) if way == "hidden"]
        held = [name for name, way in zip(net[0], ways) if way == "held"]
        yield hidden, held


def some_hidings(net, seed, times):
    """A few such ways, neither list in order."""
    for time in range(times):
        dice = Dice(seed * 101 + time)
        names = dice.shuffled(net[0])
        left = 2 + dice.throw(len(names) - 1)
        hidden = left + dice.throw(len(names) - left + 1)
        yield names[left:hidden], names[hidden:]


def parted_by(net, one, other, held):
    """Whether the net says so; of larger nets as it is told without roads."""
    if len(net[0]) > 5:
        return not joined_above(net, one, other, held)
    ask = (*in_order(net, (one, other)), tuple(in_order(net, held)))
    return ask in said_by(net)


def in_order(net, some):
    return [name for name in net[0] if name in some]


def slow_over(net, some):
    return {name for each in some for name in slow_above(net, each)}


def slow_left(net, hidden, held):
    return tuple(name for name in net[0] if name not in hidden + held)


def slow_veil(net, hidden, held):
    names = slow_left(net, hidden, held)
    joins = []
    for one, other in itertools.combinations(names, 2):
        rest = [name for name in names if name not in (one, other)]
        if not any(parted_by(net, one, other, some + held) for some in lists_of(rest)):
            at_one = "tail" if one in slow_over(net, [other] + held) else "head"
            at_other = "tail" if other in slow_over(net, [one] + held) else "head"
            joins.append((one, other, at_one, at_other))
    return (names, tuple(joins))


def ends_of(veil):
    """For each join, both ways round, its ends at the first and at the second name."""
    ends = {}
    for one, other, at_one, at_other in veil[1]:
        ends[one, other] = (at_one, at_other)
        ends[other, one] = (at_other, at_one)
    return ends


def below_in(veil, name):
    found = {name}
    for _ in veil[0]:
        found |= {
            lower for (upper, lower), ends in ends_of(veil).items() if upper in found and ends == ("tail", "head")
        }
    return found


def open_in(veil, road, some):
    ends = ends_of(veil)
    for before, name, behind in zip(road, road[1:], road[2:]):
        if ends[before, name][1] == ends[name, behind][0] == "head":
            if not below_in(veil, name) & set(some):
                return False
        elif name in some:
            return False
    return True


def roads_of_veil(veil, one, other):
    ends = ends_of(veil)
    inner = [name for name in veil[0] if name not in (one, other)]
    for length in range(len(inner) + 1):
        for middle in itertools.permutations(inner, length):
            road = [one, *middle, other]
            if all(pair in ends for pair in zip(road, road[1:])):
                yield road


class VeilTest(Case):
    def test_small_nets_with_all_hidden_and_held(self):
        for net in few_names():
            for hidden, held in every_hiding(net):
                self.assertEqual(veil_of(net, hidden, held), slow_veil(net, hidden, held))

    def test_larger_nets(self):
        for seed, net in enumerate(larger_nets()):
            for hidden, held in some_hidings(net, seed, 12):
                self.assertEqual(veil_of(net, hidden, held), slow_veil(net, hidden, held))

    def test_eight_names(self):
        for seed, net in enumerate(thrown_nets(sizes=(7, 8), each=4)):
            for hidden, held in some_hidings(net, seed, 2):
                self.assertEqual(veil_of(net, hidden, held), slow_veil(net, hidden, held))

    def test_in_whatever_order_they_are_hidden_and_held(self):
        for net in thrown_nets(sizes=(6,), each=3):
            first, second = net[0][::2][::-1], net[0][1:4:2]
            told = veil_of(net, list(first), list(second))
            self.assertEqual(veil_of(net, list(first[::-1]), list(second[::-1])), told)

    def test_tuples(self):
        for net in thrown_nets(sizes=(5, 8), each=4):
            veil = veil_of(net, [net[0][1]], [net[0][3]])
            self.assertEqual([type(part) for part in (veil, *veil, *veil[1])], [tuple] * (3 + len(veil[1])))

    def test_no_name_left(self):
        net = net_made(["b", "a", "c"], [("a", "b"), ("b", "c")])
        for hidden, held in ((["a", "b", "c"], []), ([], ["c", "b", "a"]), (["c"], ["a", "b"])):
            self.assertEqual(veil_of(net, hidden, held), ((), ()))

    def test_nothing_hidden_and_nothing_held(self):
        for net in few_names():
            names, joins = veil_of(net, [], [])
            self.assertEqual(names, net[0])
            arrows = [(one, other) if ends == ["tail", "head"] else (other, one) for one, other, *ends in joins]
            self.assertEqual(sorted(arrows), sorted(net[1]))
            self.assertTrue(all(set(ends) == {"tail", "head"} for one, other, *ends in joins))

    def test_each_two_ends_by_hand(self):
        above = net_made(["b", "c", "a"], [("c", "a"), ("c", "b")])
        self.assertEqual(veil_of(above, ["c"], []), (("b", "a"), (("b", "a", "head", "head"),)))
        below = net_made(["b", "c", "a"], [("a", "c"), ("b", "c")])
        self.assertEqual(veil_of(below, [], ["c"]), (("b", "a"), (("b", "a", "tail", "tail"),)))
        self.assertEqual(veil_of(below, ["c"], []), (("b", "a"), ()))
        row = net_made(["b", "c", "a"], [("a", "c"), ("c", "b")])
        self.assertEqual(veil_of(row, ["c"], []), (("b", "a"), (("b", "a", "head", "tail"),)))
        self.assertEqual(veil_of(row, [], ["c"]), (("b", "a"), ()))
        longer = net_made(["a", "c", "b", "d"], [("a", "c"), ("c", "b"), ("b", "d")])
        joins = (("a", "b", "tail", "head"), ("b", "d", "tail", "head"))
        self.assertEqual(veil_of(longer, ["c"], []), (("a", "b", "d"), joins))
        self.assertEqual(veil_of(longer, ["c"], ["d"]), (("a", "b"), (("a", "b", "tail", "tail"),)))

    def test_strange_names(self):
        net = net_made(["b", "a"], [("a", "b")])
        for hidden, held in ((["x"], []), ([], ["x"]), (["a", "x"], ["b"]), (["a"], ["b", ""]), (["A"], [])):
            self.refused(NoName, veil_of, net, hidden, held)

    def test_names_twice(self):
        net = net_made(["b", "a", "c"], [("a", "b")])
        for hidden, held in ((["a", "a"], []), ([], ["b", "a", "b"]), (["a"], ["a"]), (["c", "a"], ["b", "c"])):
            self.refused(Twice, veil_of, net, hidden, held)

    def test_strange_names_go_ahead(self):
        net = net_made(["b", "a"], [("a", "b")])
        for hidden, held in ((["a", "a", "x"], []), (["a"], ["a", "x"]), (["x", "x"], []), (["x"], ["x"])):
            self.refused(NoName, veil_of, net, hidden, held)

    def test_lists_handed_in_stay(self):
        net = net_made(["b", "a", "c", "d"], [("a", "b"), ("c", "b"), ("b", "d")])
        hidden, held = ["d", "a"], ["b"]
        veil = veil_of(net, hidden, held)
        self.assertEqual((hidden, held), (["d", "a"], ["b"]))
        hidden.clear()
        held.append("c")
        self.assertEqual(veil, (("c",), ()))


class PaperTest(Case):
    def is_paper(self, net, hidden, held, veil, one, other):
        told = join_paper(net, hidden, held, one, other)
        self.assertEqual([type(part) for part in (told, *told)], [tuple, str, list])
        kind, row = told
        upper = slow_over(net, [one, other] + held)
        if (one, other) in ends_of(veil):
            self.assertEqual(kind, "road")
            self.assertEqual((row[0], row[-1], len(set(row))), (one, other, len(row)))
            self.assertTrue(all(slow_tied(net, *pair) for pair in zip(row, row[1:])))
            meetings = slow_meetings(net, row)
            for name in row[1:-1]:
                self.assertIn(name, upper if name in meetings else hidden)
        else:
            self.assertEqual(told, ("list", [name for name in veil[0] if name in upper - {one, other}]))
            self.assertTrue(parted_by(net, one, other, row + held))

    def test_small_nets_with_all_hidden_and_held(self):
        for net in few_names():
            for hidden, held in every_hiding(net):
                veil = slow_veil(net, hidden, held)
                for one, other in itertools.permutations(veil[0], 2):
                    self.is_paper(net, hidden, held, veil, one, other)

    def test_larger_nets(self):
        for seed, net in enumerate(larger_nets()):
            for hidden, held in some_hidings(net, seed, 6):
                veil = slow_veil(net, hidden, held)
                for one, other in itertools.permutations(veil[0], 2):
                    self.is_paper(net, hidden, held, veil, one, other)

    def test_eight_names(self):
        for seed, net in enumerate(thrown_nets(sizes=(8,), each=4)):
            for hidden, held in some_hidings(net, seed, 2):
                veil = slow_veil(net, hidden, held)
                for one, other in itertools.permutations(veil[0], 2):
                    self.is_paper(net, hidden, held, veil, one, other)

    def test_a_road_by_way_of_a_meeting_that_is_left(self):
        net = net_made(["a", "h", "m", "k", "b"], [("a", "m"), ("k", "m"), ("k", "b"), ("m", "b"), ("h", "a")])
        self.assertEqual(join_paper(net, ["k"], [], "a", "b"), ("road", ["a", "m", "k", "b"]))
        self.assertEqual(join_paper(net, ["k"], [], "b", "a"), ("road", ["b", "k", "m", "a"]))
        self.assertEqual(join_paper(net, [], ["k"], "a", "b"), ("list", ["h", "m"]))

    def test_first_what_the_veil_refuses(self):
        net = net_made(["b", "a", "c"], [("a", "b")])
        self.refused(NoName, join_paper, net, ["x"], [], "a", "a")
        self.refused(NoName, join_paper, net, ["x", "c", "c"], [], "a", "b")
        self.refused(Twice, join_paper, net, ["c", "c"], [], "x", "b")
        self.refused(Twice, join_paper, net, ["c"], ["c"], "c", "x")

    def test_names_that_are_none_of_the_veils(self):
        net = net_made(["b", "a", "c", "d"], [("a", "b")])
        for one, other in itertools.product("abcdx", repeat=2):
            if {one, other} & set("cdx"):
                self.refused(NoName, join_paper, net, ["c"], ["d"], one, other)

    def test_one_and_the_same_name(self):
        net = net_made(["b", "a", "c", "d"], [("a", "b")])
        for name in "ab":
            self.refused(Twice, join_paper, net, ["c"], ["d"], name, name)

    def test_told_list_emptied_and_lists_handed_in_kept(self):
        net = net_made(["a", "k", "b"], [("k", "a"), ("k", "b")])
        for hidden, held, row in ((["k"], [], ["a", "k", "b"]), ([], [], ["k"])):
            kept = (list(hidden), list(held))
            told = join_paper(net, hidden, held, "a", "b")
            self.assertEqual(told[1], row)
            told[1].clear()
            self.assertEqual((hidden, held), kept)
            self.assertEqual(join_paper(net, hidden, held, "a", "b")[1], row)


class PartedInTest(Case):
    def says_what_the_net_says(self, net, hidden, held):
        veil = veil_of(net, hidden, held)
        for one, other in itertools.permutations(veil[0], 2):
            for some in lists_of([name for name in veil[0] if name not in (one, other)]):
                parted = parted_by(net, one, other, some + held)
                self.assertIs(parted_in(veil, one, other, some), parted)
                self.is_road(veil, one, other, some, parted)

    def is_road(self, veil, one, other, some, parted):
        road = road_in(veil, one, other, some)
        if parted:
            self.assertIsNone(road)
        else:
            self.assertIs(type(road), list)
            self.assertEqual((road[0], road[-1], len(set(road))), (one, other, len(road)))
            self.assertTrue(all(pair in ends_of(veil) for pair in zip(road, road[1:])))
            self.assertTrue(open_in(veil, road, some))

    def test_small_nets_with_all_hidden_and_held(self):
        for net in few_names():
            for hidden, held in every_hiding(net):
                self.says_what_the_net_says(net, hidden, held)

    def test_larger_nets(self):
        for seed, net in enumerate(larger_nets()):
            for hidden, held in some_hidings(net, seed, 3):
                self.says_what_the_net_says(net, hidden, held)

    def test_eight_names(self):
        for seed, net in enumerate(thrown_nets(sizes=(8,), each=3)):
            for hidden, held in some_hidings(net, seed, 1):
                self.says_what_the_net_says(net, hidden, held)

    def test_just_where_no_road_of_the_veil_is_open(self):
        for seed, net in enumerate(thrown_nets(sizes=(6, 7), each=5)):
            for hidden, held in some_hidings(net, seed, 3):
                veil = veil_of(net, hidden, held)
                for one, other in itertools.combinations(veil[0], 2):
                    roads = list(roads_of_veil(veil, one, other))
                    for some in lists_of([name for name in veil[0] if name not in (one, other)]):
                        parted = not any(open_in(veil, road, some) for road in roads)
                        self.assertIs(parted_in(veil, one, other, some), parted)

    def test_in_whatever_order_the_list_is(self):
        for net in thrown_nets(sizes=(6,), each=3):
            veil = veil_of(net, [net[0][0]], [])
            one, other, *rest = veil[0]
            for some in itertools.permutations(rest):
                self.assertIs(parted_in(veil, one, other, list(some)), parted_in(veil, one, other, rest))

    def test_strange_names_by_the_veils_names(self):
        veil = veil_of(net_made(["b", "a", "c", "h", "k"], [("a", "b")]), ["h"], ["k"])
        for ask in (
            ("x", "a", []), ("a", "x", []), ("h", "a", []), ("a", "k", []), ("a", "b", ["h"]),
            ("a", "b", ["c", "k"]), ("a", "a", ["x"]), ("x", "x", []), ("a", "b", ["c", "c", "h"]),
            ("a", "b", ["a", "k"]),
        ):
            self.refused(NoName, parted_in, veil, *ask)
            self.refused(NoName, road_in, veil, *ask)

    def test_names_twice(self):
        veil = veil_of(net_made(["b", "a", "c", "h", "k"], [("a", "b")]), ["h"], ["k"])
        for ask in (("a", "a", []), ("a", "b", ["a"]), ("a", "b", ["c", "b"]), ("a", "b", ["c", "c"])):
            self.refused(Twice, parted_in, veil, *ask)
            self.refused(Twice, road_in, veil, *ask)

    def test_a_veil_without_names(self):
        veil = veil_of(net_made(["a"], []), ["a"], [])
        self.refused(NoName, parted_in, veil, "a", "a", [])
        self.refused(NoName, road_in, veil, "a", "a", [])

    def test_told_road_emptied_and_the_list_kept(self):
        veil = veil_of(net_made(["a", "m", "b", "h"], [("a", "m"), ("b", "m"), ("m", "h")]), ["h"], [])
        some = ["m"]
        told = road_in(veil, "a", "b", some)
        self.assertEqual(told, ["a", "m", "b"])
        told.clear()
        self.assertEqual(some, ["m"])
        self.assertEqual(road_in(veil, "a", "b", some), ["a", "m", "b"])


class MomentTest(Case):
    def test_eight_names(self):
        for net in [*thrown_nets(sizes=(8,), each=6), all_tied(NAMES)]:
            for hidden, held in (([], []), ([net[0][0], net[0][5]], [net[0][3]]), ([net[0][7]], [])):
                self.assertLess(steps_of(veil_of, net, hidden, held), 300000)
                veil = veil_of(net, hidden, held)
                one, other, *some = veil[0]
                self.assertLess(steps_of(road_in, veil, one, other, some), 30000)
                self.assertLess(steps_of(join_paper, net, hidden, held, one, other), 600000)


if __name__ == "__main__":
    unittest.main()
