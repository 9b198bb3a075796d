"""Points 8, 9, and the refusals of point 10: roads, meetings, roads that are open."""

import itertools
import unittest

from arrowfind.errors import NoName, Twice
from arrowfind.nets import net_made
from arrowfind.roads import all_roads, is_open, meetings_of
from tests.helper import (
    NAMES, Case, every_net, joined_above, lists_of, slow_meetings, slow_open, slow_roads,
    thrown_nets,
)


def some_nets():
    for size in (2, 3, 4):
        yield from every_net(size)
    yield from thrown_nets(sizes=(5, 6))


class RoadsTest(Case):
    def test_between_any_two_names(self):
        for net in some_nets():
            for one, other in itertools.permutations(net[0], 2):
                self.assertEqual(all_roads(net, one, other), slow_roads(net, one, other))

    def test_in_larger_nets(self):
        for net in thrown_nets(sizes=(7, 8), each=5):
            one, other = net[0][0], net[0][-1]
            self.assertEqual(all_roads(net, one, other), slow_roads(net, one, other))
            self.assertEqual(all_roads(net, other, one), slow_roads(net, other, one))

    def test_as_many_as_there_can_be(self):
        net = net_made(NAMES, list(itertools.combinations(NAMES, 2)))
        roads = all_roads(net, NAMES[5], NAMES[2])
        self.assertEqual(len(roads), 1957)
        self.assertEqual(roads, slow_roads(net, NAMES[5], NAMES[2]))

    def test_sorted_by_places_and_not_by_the_alphabet_or_length(self):
        net = net_made(["d", "c", "b", "a"], [("d", "c"), ("b", "c"), ("b", "a"), ("d", "b"), ("c", "a")])
        told = [["d", "c", "b", "a"], ["d", "c", "a"], ["d", "b", "c", "a"], ["d", "b", "a"]]
        self.assertEqual(all_roads(net, "d", "a"), told)

    def test_none(self):
        self.assertEqual(all_roads(net_made(["a", "b"], []), "a", "b"), [])
        self.assertEqual(all_roads(net_made(["a", "b", "c"], [("a", "b")]), "c", "a"), [])

    def test_the_same_the_other_way_round(self):
        for net in some_nets():
            for one, other in itertools.combinations(net[0], 2):
                there = all_roads(net, one, other)
                back = [list(reversed(road)) for road in all_roads(net, other, one)]
                self.assertEqual(sorted(there), sorted(back))

    def test_lists_are_the_askers_own(self):
        net = net_made(["a", "b", "c"], [("a", "b"), ("b", "c"), ("a", "c")])
        told = [["a", "b", "c"], ["a", "c"]]
        roads = all_roads(net, "a", "c")
        roads[0].clear()
        self.assertEqual(roads, [[], ["a", "c"]])
        roads.clear()
        self.assertEqual(all_roads(net, "a", "c"), told)
        for road in told:
            self.assertIs(type(road), list)

    def test_strange_names(self):
        net = net_made(["a", "b"], [("a", "b")])
        self.refused(NoName, all_roads, net, "x", "a")
        self.refused(NoName, all_roads, net, "a", "x")
        self.refused(NoName, all_roads, net, "x", "y")

    def test_one_name_twice_behind_strange_names(self):
        net = net_made(["a", "b"], [("a", "b")])
        self.refused(Twice, all_roads, net, "a", "a")
        self.refused(Twice, all_roads, net, "b", "b")
        self.refused(NoName, all_roads, net, "x", "x")


class MeetingsTest(Case):
    def test_of_any_road(self):
        for net in some_nets():
            for one, other in itertools.permutations(net[0], 2):
                for road in all_roads(net, one, other):
                    self.assertEqual(meetings_of(net, road), slow_meetings(net, road))

    def test_in_the_roads_order(self):
        net = net_made(list("edcba"), [("a", "b"), ("c", "b"), ("c", "d"), ("e", "d")])
        self.assertEqual(meetings_of(net, list("abcde")), ["b", "d"])
        self.assertEqual(meetings_of(net, list("edcba")), ["d", "b"])

    def test_passed_names_are_none(self):
        net = net_made(list("abc"), [("a", "b"), ("b", "c")])
        self.assertEqual(meetings_of(net, ["a", "b", "c"]), [])
        self.assertEqual(meetings_of(net, ["c", "b", "a"]), [])
        net = net_made(list("abc"), [("b", "a"), ("b", "c")])
        self.assertEqual(meetings_of(net, ["a", "b", "c"]), [])

    def test_ends_are_none(self):
        net = net_made(list("abc"), [("a", "b"), ("c", "b")])
        self.assertEqual(meetings_of(net, ["a", "b"]), [])
        self.assertEqual(meetings_of(net, ["b", "c"]), [])
        self.assertEqual(meetings_of(net, ["a", "b", "c"]), ["b"])

    def test_road_and_later_answers_stay(self):
        net = net_made(list("abc"), [("a", "b"), ("c", "b")])
        road = ["a", "b", "c"]
        meetings_of(net, road).clear()
        self.assertEqual(road, ["a", "b", "c"])
        self.assertEqual(meetings_of(net, road), ["b"])

    def test_strange_names(self):
        net = net_made(list("abc"), [("a", "b"), ("c", "b")])
        for road in (["x", "b", "c"], ["a", "x", "c"], ["a", "b", "x"]):
            self.refused(NoName, meetings_of, net, road)


class OpenTest(Case):
    def test_passed_name_held_and_not(self):
        for arrows in ([("a", "b"), ("b", "c")], [("b", "a"), ("b", "c")], [("b", "a"), ("c", "b")]):
            net = net_made(list("abcd"), arrows)
            self.assertIs(is_open(net, ["a", "b", "c"], []), True)
            self.assertIs(is_open(net, ["a", "b", "c"], ["d"]), True)
            self.assertIs(is_open(net, ["a", "b", "c"], ["b"]), False)
            self.assertIs(is_open(net, ["a", "b", "c"], ["d", "b"]), False)

    def test_meeting_held_below_and_not(self):
        net = net_made(list("abcdefg"), [("a", "b"), ("c", "b"), ("b", "d"), ("d", "e"), ("f", "a"), ("b", "g")])
        road = ["a", "b", "c"]
        self.assertIs(is_open(net, road, []), False)
        self.assertIs(is_open(net, road, ["f"]), False)
        for held in (["b"], ["d"], ["e"], ["g"], ["f", "e"], ["b", "d", "e", "f", "g"]):
            self.assertIs(is_open(net, road, held), True, held)

    def test_each_meeting_needs_one(self):
        net = net_made(list("abcdef"), [("a", "b"), ("c", "b"), ("c", "d"), ("e", "d"), ("d", "f")])
        road = list("abcde")
        for held, truth in (([], False), (["b"], False), (["f"], False), (["b", "f"], True), (["b", "d"], True),
                            (["b", "c", "d"], False)):
            self.assertIs(is_open(net, road, held), truth, held)

    def test_a_held_end_of_a_road_below_a_meeting_is_refused(self):
        net = net_made(list("abc"), [("a", "b"), ("c", "b")])
        self.refused(Twice, is_open, net, ["a", "b"], ["b"])

    def test_two_tied_names(self):
        net = net_made(list("abc"), [("a", "b"), ("b", "c"), ("a", "c")])
        self.assertIs(is_open(net, ["a", "c"], []), True)
        self.assertIs(is_open(net, ["c", "a"], ["b"]), True)

    def test_every_road_beside_every_list(self):
        for net in some_nets():
            for one, other in itertools.permutations(net[0], 2):
                roads = all_roads(net, one, other)[:12]
                for held in lists_of([name for name in net[0] if name not in (one, other)]):
                    for road in roads:
                        self.assertIs(is_open(net, road, held), slow_open(net, road, held))

    def test_some_road_is_open_just_where_names_are_joined(self):
        for net in itertools.chain(every_net(4), thrown_nets(sizes=(5,), each=8)):
            for one, other in itertools.combinations(net[0], 2):
                roads = all_roads(net, one, other)
                for held in lists_of([name for name in net[0] if name not in (one, other)]):
                    truth = any([is_open(net, road, held) for road in roads])
                    self.assertIs(truth, joined_above(net, one, other, held))

    def test_held_in_any_order_and_the_other_way_round(self):
        net = net_made(list("abcdef"), [("a", "b"), ("c", "b"), ("c", "d"), ("e", "d"), ("d", "f")])
        road = list("abcde")
        for some, truth in ((["b", "f", "d"], True), (["b", "f", "c"], False)):
            for held in itertools.permutations(some):
                self.assertIs(is_open(net, road, list(held)), truth)
                self.assertIs(is_open(net, road[::-1], list(held)), truth)

    def test_what_is_handed_in_stays(self):
        net = net_made(list("abcd"), [("a", "b"), ("c", "b"), ("b", "d")])
        road, held = ["a", "b", "c"], ["d", "b"]
        is_open(net, road, held)
        self.assertEqual((road, held), (["a", "b", "c"], ["d", "b"]))
        self.assertEqual(net, (tuple("abcd"), (("a", "b"), ("b", "d"), ("c", "b"))))

    def test_strange_names(self):
        net = net_made(list("abcd"), [("a", "b"), ("b", "c")])
        for road, held in (
            (["x", "b", "c"], []), (["a", "b", "x"], []), (["a", "x", "c"], []),
            (["a", "b", "c"], ["x"]), (["a", "b", "c"], ["d", "x"]), (["a", "b", "c"], ["b", "x"]),
        ):
            self.refused(NoName, is_open, net, road, held)

    def test_names_twice(self):
        net = net_made(list("abcd"), [("a", "b"), ("b", "c")])
        for held in (["a"], ["c"], ["d", "a"], ["c", "d"], ["d", "d"], ["b", "d", "b"]):
            self.refused(Twice, is_open, net, ["a", "b", "c"], held)

    def test_strange_names_go_ahead_of_names_twice(self):
        net = net_made(list("abcd"), [("a", "b"), ("b", "c")])
        for road, held in (
            (["a", "b", "c"], ["a", "x"]), (["a", "b", "c"], ["d", "d", "x"]),
            (["a", "b", "c"], ["x", "x"]), (["x", "b", "c"], ["c"]), (["a", "b", "x"], ["d", "d"]),
        ):
            self.refused(NoName, is_open, net, road, held)

    def test_an_inner_name_may_be_held(self):
        net = net_made(list("abc"), [("a", "b"), ("c", "b")])
        self.assertIs(is_open(net, ["a", "b", "c"], ["b"]), True)


if __name__ == "__main__":
    unittest.main()
